/- Part 12 of what the proof rests on. No condition but those that a theorem names. -/
import Derived.Test.YtgdpaigcmoifbaaGreatXe04
import Derived.Test.YtgdpaigcmoifbaaGreatXe07
import Derived.Test.YtgdpaigcmoifbaaGreatXe08
import Derived.Test.YtgdpaigcmoifbaaGreatXe09
import Derived.Test.YtgdpaigcmoifbaaGreatXe10
set_option maxHeartbeats 8000000
set_option maxRecDepth 100000
namespace Go.Proofs.YtgdpaigcmoifbaaGreat
open Go.ChangeShapes Go.WideShapes Go.ChangeAt Go.RowKit Go.Sort
set_option linter.unusedVariables false
structure SmyV where
 rooms : List RoomV
 guilds : List GuildV
 smiths : List SmithV
 desks : List DeskV
 paces : List Int
 now : Int
structure Smy (w : World) (v0 v1 v2 v3 v4 : Value) (m : SmyV) : Prop where
 rooms : IsRooms w v0 m.rooms
 guilds : IsGuilds w v1 m.guilds
 smiths : IsSmiths w v2 m.smiths
 desks : IsDesks w v3 m.desks
 paces : IsNums w v4 m.paces
theorem Smy.below {w w' : World} {v0 v1 v2 v3 v4 : Value} {m : SmyV} (h : Smy w v0 v1 v2 v3 v4 m) (hb : Below w.heap.size w w') : Smy w' v0 v1 v2 v3 v4 m :=
 ⟨h.rooms.below hb, h.guilds.below hb, h.smiths.below hb, h.desks.below hb, h.paces.below hb⟩
theorem Smy.alloc {w : World} {v0 v1 v2 v3 v4 : Value} {m : SmyV} (h : Smy w v0 v1 v2 v3 v4 m) (o : Obj) : Smy (w.alloc o) v0 v1 v2 v3 v4 m := h.below ((ba _ _))
structure SmySmall (m : SmyV) : Prop where
 rooms : Small m.rooms
 guilds : m.guilds.length ≤ 1048576
 smiths : m.smiths.length ≤ 1048576
 desks : m.desks.length ≤ 1048576
 paces : m.paces.length ≤ 1048576
theorem RoomsFrom.below {n₀ : Nat} {w w' : World} {v : Value} {rs : List RoomV} (h : RoomsFrom n₀ w v rs) (hb : Below w.heap.size w w') : RoomsFrom n₀ w' v rs := by
 obtain ⟨a, cap, hv, hc, hm, hr⟩ := h
 refine ⟨a, cap, hv, hc, hm, ?_⟩
 rcases hr with hr | ⟨b, off, ha, h0, hlt, hcl⟩
 ·exact .inl hr
 ·have hs := hb.size
  refine .inr ⟨b, off, ha, h0, by omega, fun k hk => ?_⟩
  obtain ⟨c0, pv, c1, hp, hj⟩ := hcl k hk
  exact ⟨(hb.cell (p := ⟨b, off + k * 2, none⟩) hlt).trans c0, pv, (hb.cell (p := ⟨b, off + k * 2 + 1, none⟩) hlt).trans c1, hp.below hb, hj⟩
theorem RoomsFrom.mono {n₀ n₁ : Nat} {w : World} {v : Value} {rs : List RoomV} (h : RoomsFrom n₀ w v rs) (hn : n₁ ≤ n₀) : RoomsFrom n₁ w v rs := by
 obtain ⟨a, cap, hv, hc, hm, hr⟩ := h
 refine ⟨a, cap, hv, hc, hm, ?_⟩
 rcases hr with hr | ⟨b, off, ha, h0, hlt, hcl⟩
 ·exact .inl hr
 ·refine .inr ⟨b, off, ha, by omega, hlt, fun k hk => ?_⟩
  obtain ⟨c0, pv, c1, hp, hj⟩ := hcl k hk
  exact ⟨c0, pv, c1, hp, fun j e => by have := hj j e; omega⟩
theorem RecAt.set_old {α : Type} {t k : Nat} {enc : α → List Value} {n₀ : Nat} {w : World} {v : Value} {xs : List α} (h : RecAt t k enc n₀ w v xs) (g o : Nat) (u : Value) (hg : g < n₀) : RecAt t k enc n₀ (w.setCell ⟨g, o, none⟩ u) v xs :=
 h.same fun i hi => heap_setCell_other w _ i u (by have := (h.lt hi).1; show i ≠ g; omega)
structure OwnSmy (n₀ : Nat) (w : World) (v0 v1 v2 v3 v4 : Value) (m : SmyV) : Prop where
 rooms : RoomsFrom n₀ w v0 m.rooms
 guilds : GuildsAt n₀ w v1 m.guilds
 smiths : SmithsAt n₀ w v2 m.smiths
 desks : DesksAt n₀ w v3 m.desks
 paces : NumsAt n₀ w v4 m.paces
theorem OwnSmy.smy {n₀ : Nat} {w : World} {v0 v1 v2 v3 v4 : Value} {m : SmyV} (h : OwnSmy n₀ w v0 v1 v2 v3 v4 m) : Smy w v0 v1 v2 v3 v4 m := ⟨h.rooms.rooms, h.guilds.list, h.smiths.list, h.desks.list, h.paces.list⟩
theorem OwnSmy.mono {n₀ n₁ : Nat} {w : World} {v0 v1 v2 v3 v4 : Value} {m : SmyV} (h : OwnSmy n₀ w v0 v1 v2 v3 v4 m) (hn : n₁ ≤ n₀) : OwnSmy n₁ w v0 v1 v2 v3 v4 m :=
 ⟨h.rooms.mono hn, RecAt.mono h.guilds hn, RecAt.mono h.smiths hn, RecAt.mono h.desks hn, RecAt.mono h.paces hn⟩
theorem OwnSmy.set {n₀ : Nat} {w : World} {v0 v1 v2 v3 v4 : Value} {m : SmyV} (h : OwnSmy n₀ w v0 v1 v2 v3 v4 m) (g o : Nat) (u : Value) (hg : g < n₀) : OwnSmy n₀ (w.setCell ⟨g, o, none⟩ u) v0 v1 v2 v3 v4 m :=
 ⟨h.rooms.set g o u hg, RecAt.set_old h.guilds g o u hg, RecAt.set_old h.smiths g o u hg, RecAt.set_old h.desks g o u hg, RecAt.set_old h.paces g o u hg⟩
abbrev E6 : Array Value := #[.slice none 0 0, .slice none 0 0, .slice none 0 0, .slice none 0 0, .slice none 0 0, .int .i64 0]
abbrev S6 (a0 : Option Addr) (p0 : Nat) (a1 : Option Addr) (p1 : Nat) (a2 : Option Addr) (p2 : Nat) (a3 : Option Addr) (p3 : Nat) (a4 : Option Addr) (p4 : Nat) (m : SmyV) : Array Value := #[.slice a0 m.rooms.length p0, .slice a1 m.guilds.length p1, .slice a2 m.smiths.length p2, .slice a3 m.desks.length p3, .slice a4 m.paces.length p4, .int .i64 m.now]
theorem Smy.five {w : World} {v0 v1 v2 v3 v4 : Value} {m : SmyV} (h : Smy w v0 v1 v2 v3 v4 m) : ∃ a0 p0 a1 p1 a2 p2 a3 p3 a4 p4, v0 = .slice a0 m.rooms.length p0 ∧ v1 = .slice a1 m.guilds.length p1 ∧ v2 = .slice a2 m.smiths.length p2 ∧ v3 = .slice a3 m.desks.length p3 ∧ v4 = .slice a4 m.paces.length p4 ∧ m.rooms.length ≤ p0 ∧ p0 ≤ 9223372036854775807 ∧ m.guilds.length ≤ p1 ∧ p1 ≤ 9223372036854775807 ∧ m.smiths.length ≤ p2 ∧ p2 ≤ 9223372036854775807 ∧ m.desks.length ≤ p3 ∧ p3 ≤ 9223372036854775807 ∧ m.paces.length ≤ p4 ∧ p4 ≤ 9223372036854775807 := by
 obtain ⟨a0, p0, e0, x0, y0, _⟩ := h.rooms
 obtain ⟨a1, p1, e1, x1, y1, _⟩ := h.guilds
 obtain ⟨a2, p2, e2, x2, y2, _⟩ := h.smiths
 obtain ⟨a3, p3, e3, x3, y3, _⟩ := h.desks
 obtain ⟨a4, p4, e4, x4, y4, _⟩ := h.paces
 exact ⟨a0, p0, a1, p1, a2, p2, a3, p3, a4, p4, e0, e1, e2, e3, e4, x0, y0, x1, y1, x2, y2, x3, y3, x4, y4⟩
def presS (s : SmithV) : Bool := s.1 == 2 || s.1 == 3
def bandB (had mark : Int) : Bool := inB had (-1000000000000) 1000000000000 && (inB mark (-1000000000000) 1000000000000 && inB (had - mark) (-20000) 63000)
def deskB (d : DeskV) : Bool := inB d.2.2 (-900000000000) 900000000000
def paceInB (m : SmyV) (j : Nat) : Bool := inB (recAt m.paces j) 0 (((roomAt m.rooms j).2.length : Int) - 1)
def hereB (m : SmyV) (s : SmithV) : Bool := smithB s && (s.1 == 0 || (decide (s.2.2.2.2.1 < m.guilds.length) && decide (s.2.1 < m.desks.length)))
def seatB (m : SmyV) (s : SmithV) : Bool := !presS s || ((recAt m.desks s.2.1.toNat).1 && (bitB s.2.2.2.1 s.2.1 && bandB s.2.2.2.2.2.2.2.1 (recAt m.desks s.2.1.toNat).2.2))
def headB (m : SmyV) : Bool := hallB m.rooms && (guildsB m.guilds && (decide (m.smiths.length ≤ 12) && (decide ((m.desks.length : Int) = benchSum m.rooms) && (decide (m.paces.length = m.rooms.length) && inB m.now 0 1000000))))
def upDesks (m : SmyV) (k : Nat) : Bool := (List.range k).all fun j => deskB (recAt m.desks j)
def upOpen (m : SmyV) (k : Nat) : Bool := (List.range k).any fun j => (recAt m.desks j).1
def upPaces (m : SmyV) (k : Nat) : Bool := (List.range k).all fun j => paceInB m j
def upSmiths (m : SmyV) (k : Nat) : Bool := (List.range k).all fun j => hereB m (recAt m.smiths j) && seatB m (recAt m.smiths j)
def looseB (m : SmyV) : Bool := headB m && (upDesks m m.desks.length && (upPaces m m.paces.length && (upSmiths m m.smiths.length && upOpen m m.desks.length)))
theorem all_up {p : Nat → Bool} (k : Nat) : (List.range (k + 1)).all p = ((List.range k).all p && p k) := by rw [List.range_succ, List.all_append]; simp
theorem any_up {p : Nat → Bool} (k : Nat) : (List.range (k + 1)).any p = ((List.range k).any p || p k) := by rw [List.range_succ, List.any_append]; simp
theorem all_no {p : Nat → Bool} {k n : Nat} (hk : k < n) (h : p k = false) : (List.range n).all p = false := by
 rw [List.all_eq_false]
 exact ⟨k, List.mem_range.2 hk, by simp [h]⟩
theorem all_at {p : Nat → Bool} {k n : Nat} (h : (List.range n).all p = true) (hk : k < n) : p k = true := List.all_eq_true.1 h k (List.mem_range.2 hk)
theorem looseB_head {m : SmyV} (h : headB m = false) : looseB m = false := by unfold looseB; rw [h]; rfl
theorem looseB_desk {m : SmyV} {k : Nat} (hk : k < m.desks.length) (h : deskB (recAt m.desks k) = false) : looseB m = false := by
 unfold looseB upDesks
 rw [all_no hk h]; simp
theorem looseB_pace {m : SmyV} {k : Nat} (hk : k < m.paces.length) (h : paceInB m k = false) : looseB m = false := by
 unfold looseB upPaces
 rw [all_no (p := fun j => paceInB m j) hk h]; simp
theorem looseB_smith {m : SmyV} {k : Nat} (hk : k < m.smiths.length) (h : (hereB m (recAt m.smiths k) && seatB m (recAt m.smiths k)) = false) : looseB m = false := by
 unfold looseB upSmiths
 rw [all_no (p := fun j => hereB m (recAt m.smiths j) && seatB m (recAt m.smiths j)) hk h]; simp
theorem looseB_all {m : SmyV} (h1 : headB m = true) (h2 : upDesks m m.desks.length = true) (h3 : upPaces m m.paces.length = true) (h4 : upSmiths m m.smiths.length = true) : looseB m = upOpen m m.desks.length := by
 unfold looseB; rw [h1, h2, h3, h4]; rfl
theorem hereB_of {m : SmyV} {s : SmithV} (h : hereB m s = true) (hp : presS s = true) : 0 ≤ s.2.1 ∧ s.2.1 < m.desks.length ∧ s.2.1 ≤ 7 ∧ 1 ≤ s.2.2.2.1 ∧ s.2.2.2.1 ≤ 255 ∧ s.2.2.2.2.1 < m.guilds.length := by
 obtain ⟨st, be, rk, my, gu, lo, hi, hd, ca, ut, wk⟩ := s
 have hst : st ≠ 0 := by
  intro e
  subst e
  cases hp
 unfold hereB at h
 simp only [alBae, Bool.or_eq_true, alDte] at h
 obtain ⟨h1, h2⟩ := h
 rcases h2 with h2 | ⟨h2, h3⟩
 ·exact absurd (by simpa using h2) hst
 ·have hs : smithB (st, be, rk, my, gu, lo, hi, hd, ca, ut, wk) = presB (st, be, rk, my, gu, lo, hi, hd, ca, ut, wk) := by unfold smithB; rw [goneB_st hst, Bool.false_or]
  rw [hs] at h1
  obtain ⟨_, ⟨b0, b1⟩, _, ⟨m0, m1⟩, _⟩ := presB_of h1
  exact ⟨b0, h3, b1, m0, m1, h2⟩
def scanV (ss : List SmithV) (b : Int) : Nat → Option (Int × Bool)
 | 0 => some (-1, false)
 | k + 1 => match scanV ss b k with
  | none => none
  | some (wk, wt) => if (recAt ss k).2.1 = b ∧ presS (recAt ss k) = true then (if (recAt ss k).1 = 2 then some (wk, true) else if 0 ≤ wk then none else some ((k : Int), wt)) else some (wk, wt)
def benchOkB (m : SmyV) (b : Nat) : Bool := match scanV m.smiths b m.smiths.length with
 | none => false
 | some (wk, wt) => (recAt m.desks b).2.1 == wk && !(wt && decide (wk < 0))
def smyB (m : SmyV) : Bool := looseB m && (List.range m.desks.length).all (benchOkB m)
open Go.ChangeShapes Go.WideShapes Go.ChangeAt Go.RowKit Go.Sort Go.Proofs.Tryz
theorem l11Present_any (st be rk my gu lo hi hd ca ut wk : Int) (w : World) : Calls prog 87 #[.agg (I11 st be rk my gu lo hi hd ca ut wk)] w fun e w' =>
  e = .returned (.bool (presS (st, be, rk, my, gu, lo, hi, hd, ca, ut, wk))) ∧ Below w.heap.size w w' := by
 unfold presS
 simp only
 cases h2 : (st == 2)
 all_goals
  go_enter func87, ntmps87
  go_wp2_with fail
  go_ret
  exact ⟨by first | rfl | (simp), (ba _ _)⟩
theorem specInBand_any (h m : Int) (w : World) : cE 136 #[.int .i64 h, .int .i64 m] w (.bool (bandB h m)) := by
 unfold bandB
 cases h1 : inB h (-1000000000000) 1000000000000
 ·go_enter func136, ntmps136
  go_wp2_with (first | (go_at_call 195; refine (specHad_any _ _).mono ?_; rintro e w' ⟨rfl, rfl⟩) | (go_at_call 129; refine (l1In_any _ _ _ _).mono ?_; rintro e w' ⟨rfl, rfl⟩))
  go_ret
  exact ⟨rfl, rfl⟩
 cases h2 : inB m (-1000000000000) 1000000000000
 ·go_enter func136, ntmps136
  go_wp2_with (first | (go_at_call 195; refine (specHad_any _ _).mono ?_; rintro e w' ⟨rfl, rfl⟩) | (go_at_call 129; refine (l1In_any _ _ _ _).mono ?_; rintro e w' ⟨rfl, rfl⟩))
  go_ret
  exact ⟨rfl, rfl⟩
 obtain ⟨a0, a1⟩ := inB_of h1
 obtain ⟨b0, b1⟩ := inB_of h2
 go_enter func136, ntmps136
 go_wp2_with (first | (go_at_call 195; refine (specHad_any _ _).mono ?_; rintro e w' ⟨rfl, rfl⟩) | (go_at_call 129; refine (l1In_any _ _ _ _).mono ?_; rintro e w' ⟨rfl, rfl⟩))
 go_ret
 exact ⟨rfl, rfl⟩
theorem specHallOk_v {w : World} {v : Value} {rs : List RoomV} {q : Bool} (hq : hallB rs = q) (h : IsRooms w v rs) : cB 131 #[.agg #[v]] w (.bool q) := by
 have := specHallOk_any h; rw [hq] at this; exact this
theorem specGuildsOk_q {w : World} {v : Value} {ps : List GuildV} {q : Bool} (hq : guildsB ps = q) (h : IsGuilds w v ps) : cB 132 #[v] w (.bool q) := by
 have := specGuildsOk_any h; rw [hq] at this; exact this
theorem l4Count_v {w : World} {v : Value} {rs : List RoomV} {n : Int} (hn : benchSum rs = n) (h : IsRooms w v rs) (ha : Adds rs) : cB 133 #[.agg #[v]] w (.int .i64 n) := by
 have := l4Count_any h ha; rw [hn] at this; exact this
theorem l1In_q {x lo hi : Int} {q : Bool} (hq : inB x lo hi = q) (w : World) : cB 129 #[.int .i64 x, .int .i64 lo, .int .i64 hi] w (.bool q) := by
 have := l1In_any x lo hi w; rw [hq] at this
 exact this.mono fun e w' ⟨h1, h2⟩ => ⟨h1, by rw [h2]; exact alBrf _ _⟩
theorem specSmithOk_q {st be rk my gu lo hi hd ca ut wk : Int} {q : Bool} (hq : smithB (st, be, rk, my, gu, lo, hi, hd, ca, ut, wk) = q) (w : World) : cB 134 #[.agg (I11 st be rk my gu lo hi hd ca ut wk)] w (.bool q) := by
 have := specSmithOk_any st be rk my gu lo hi hd ca ut wk w; rw [hq] at this; exact this
theorem l11Present_q {st be rk my gu lo hi hd ca ut wk : Int} {q : Bool} (hq : presS (st, be, rk, my, gu, lo, hi, hd, ca, ut, wk) = q) (w : World) : cB 87 #[.agg (I11 st be rk my gu lo hi hd ca ut wk)] w (.bool q) := by
 have := l11Present_any st be rk my gu lo hi hd ca ut wk w; rw [hq] at this; exact this
theorem l2Has_q {s i : Int} {q : Bool} (hq : bitB s i = q) (h0 : 0 ≤ s) (h1 : s ≤ 255) (h2 : 0 ≤ i) (h3 : i ≤ 7) (w : World) : cB 135 #[.int .i64 s, .int .i64 i] w (.bool q) := by
 have := l2Has_any s i w h0 h1 h2 h3; rw [hq] at this
 exact this.mono fun e w' ⟨h1, h2⟩ => ⟨h1, by rw [h2]; exact alBrf _ _⟩
theorem specInBand_q {h k : Int} {q : Bool} (hq : bandB h k = q) (w : World) : cB 136 #[.int .i64 h, .int .i64 k] w (.bool q) := by
 have := specInBand_any h k w; rw [hq] at this
 exact this.mono fun e w' ⟨h1, h2⟩ => ⟨h1, by rw [h2]; exact alBrf _ _⟩
theorem l11Loose_any {w : World} {v0 v1 v2 v3 v4 : Value} {m : SmyV} (h : Smy w v0 v1 v2 v3 v4 m) :
  cB 67 #[.agg #[v0, v1, v2, v3, v4, .int .i64 m.now]] w (.bool (looseB m)) := by
 have Hv := hide (h.alloc (.cells #[v0, v1, v2, v3, v4, .int .i64 m.now] 32))
 obtain ⟨h0, h1, h2, h3, h4⟩ := h
 obtain ⟨a0, p0, rfl, hc0, hm0, r0⟩ := h0
 obtain ⟨a1, p1, rfl, hc1, hm1, _⟩ := h1
 obtain ⟨a2, p2, rfl, hc2, hm2, r2⟩ := h2
 obtain ⟨a3, p3, rfl, hc3, hm3, r3⟩ := h3
 obtain ⟨a4, p4, rfl, hc4, hm4, r4⟩ := h4
 have R0 := hide r0
 have R2 := hide r2
 have R3 := hide r3
 have R4 := hide r4
 clear r0 r2 r3 r4
 go_enter func67, ntmps67
 go_wp2_with fail
 obtain ⟨W, hW, BB, kb⟩ := one_boxH w 32 (S6 a0 p0 a1 p1 a2 p2 a3 p3 a4 p4 m)
 rw [hW]
 (try rw [hW] at Hv);clear hW
 have c0 := alCrg ((uh kb).cell (i := 0) (v := .slice a0 m.rooms.length p0) rfl)
 have c1 := alCrg ((uh kb).cell (i := 1) (v := .slice a1 m.guilds.length p1) rfl)
 have c2 := alCrg ((uh kb).cell (i := 2) (v := .slice a2 m.smiths.length p2) rfl)
 have c3 := alCrg ((uh kb).cell (i := 3) (v := .slice a3 m.desks.length p3) rfl)
 have c4 := alCrg ((uh kb).cell (i := 4) (v := .slice a4 m.paces.length p4) rfl)
 have c5 := alCrg ((uh kb).cell (i := 5) (v := .int .i64 m.now) rfl)
 cases h0 : hallB m.rooms
 ·have Q0 := hide h0
  clear h0
  refine wq ?_
  repeat (go_big_quiet_step (first | exact alCro (specHallOk_v (uh Q0) ((uh Hv).below (alBrg _ _ _)).rooms)))
  refine wqn fun W1 hb => ?_
  clear c0 c1 c2 c3 c4 c5
  go_wp2_with fail
  go_ret
  exact ⟨ret_bool (looseB_head (by unfold headB; rw [uh Q0]; rfl)).symm, (uh BB).trans (hb.mono (uh BB).size)⟩
 have Q0 := hide h0
 have QA := hide (adds_hall h0)
 clear h0
 cases h1 : guildsB m.guilds
 ·have Q1 := hide h1
  clear h1
  refine wq ?_
  repeat (go_big_quiet_step (first | exact alCro (specHallOk_v (uh Q0) ((uh Hv).below (alBrg _ _ _)).rooms) | exact alCro (specGuildsOk_q (uh Q1) ((uh Hv).below (alBrg _ _ _)).guilds)))
  refine wqn fun W1 hb => ?_
  clear c0 c1 c2 c3 c4 c5
  go_wp2_with fail
  go_ret
  exact ⟨ret_bool (looseB_head (by unfold headB; rw [uh Q0, uh Q1]; rfl)).symm, (uh BB).trans (hb.mono (uh BB).size)⟩
 have Q1 := hide h1
 clear h1
 by_cases h2 : 12 < m.smiths.length
 ·have h2i : (12 : Int) < (m.smiths.length : Int) := by omega
  have h2d : decide ((12 : Int) < (m.smiths.length : Int)) = true := alDet h2i
  refine wq ?_
  repeat (go_big_quiet_step (first | exact alCro (specHallOk_v (uh Q0) ((uh Hv).below (alBrg _ _ _)).rooms) | exact alCro (specGuildsOk_q (uh Q1) ((uh Hv).below (alBrg _ _ _)).guilds)))
  refine wqn fun W1 hb => ?_
  clear c0 c1 c2 c3 c4 c5
  go_wp2_with fail
  go_ret
  exact ⟨ret_bool (looseB_head (by unfold headB; rw [uh Q0, uh Q1]; simp; intro h9; omega)).symm, (uh BB).trans (hb.mono (uh BB).size)⟩
 have h2i : ¬ (12 : Int) < (m.smiths.length : Int) := by omega
 have h2d : decide ((12 : Int) < (m.smiths.length : Int)) = false := alDef h2i
 obtain ⟨n, Q3⟩ := alAn (benchSum m.rooms)
 by_cases h3 : (m.desks.length : Int) = n
 rotate_left
 ·have h3b : ((m.desks.length : Int) != n) = true := by simpa using h3
  refine wq ?_
  repeat (go_big_quiet_step (first | exact alCro (specHallOk_v (uh Q0) ((uh Hv).below (alBrg _ _ _)).rooms) | exact alCro (specGuildsOk_q (uh Q1) ((uh Hv).below (alBrg _ _ _)).guilds) | exact alCro (l4Count_v (uh Q3) ((uh Hv).below (alBrg _ _ _)).rooms (uh QA))))
  refine wqn fun W1 hb => ?_
  clear c0 c1 c2 c3 c4 c5
  go_wp2_with fail
  go_ret
  exact ⟨ret_bool (looseB_head (by unfold headB; rw [uh Q0, uh Q1, uh Q3]; simp [h3])).symm, (uh BB).trans (hb.mono (uh BB).size)⟩
 have h3b : ((m.desks.length : Int) != n) = false := by simpa using h3
 by_cases h4 : m.paces.length = m.rooms.length
 rotate_left
 ·have h4b : ((m.paces.length : Int) != (m.rooms.length : Int)) = true := by simp; omega
  refine wq ?_
  repeat (go_big_quiet_step (first | exact alCro (specHallOk_v (uh Q0) ((uh Hv).below (alBrg _ _ _)).rooms) | exact alCro (specGuildsOk_q (uh Q1) ((uh Hv).below (alBrg _ _ _)).guilds) | exact alCro (l4Count_v (uh Q3) ((uh Hv).below (alBrg _ _ _)).rooms (uh QA))))
  refine wqn fun W1 hb => ?_
  clear c0 c1 c2 c3 c4 c5
  go_wp2_with fail
  go_ret
  exact ⟨ret_bool (looseB_head (by unfold headB; rw [uh Q0, uh Q1]; simp [h4])).symm, (uh BB).trans (hb.mono (uh BB).size)⟩
 have h4b : ((m.paces.length : Int) != (m.rooms.length : Int)) = false := by simp; omega
 cases h5 : inB m.now 0 1000000
 ·have Q5 := hide h5
  clear h5
  refine wq ?_
  repeat (go_big_quiet_step (first | exact alCro (specHallOk_v (uh Q0) ((uh Hv).below (alBrg _ _ _)).rooms) | exact alCro (specGuildsOk_q (uh Q1) ((uh Hv).below (alBrg _ _ _)).guilds) | exact alCro (l4Count_v (uh Q3) ((uh Hv).below (alBrg _ _ _)).rooms (uh QA)) | exact alCro (l1In_q (uh Q5) _)))
  refine wqn fun W1 hb => ?_
  clear c0 c1 c2 c3 c4 c5
  go_wp2_with fail
  go_ret
  exact ⟨ret_bool (looseB_head (by unfold headB; rw [uh Q0, uh Q1, uh Q3, uh Q5]; simp)).symm, (uh BB).trans (hb.mono (uh BB).size)⟩
 have Q5 := hide h5
 clear h5
 have QH : Hid (headB m = true) := hide (by unfold headB; rw [uh Q0, uh Q1, uh Q3, uh Q5]; simp [h3, h4]; omega)
 refine wq ?_
 repeat (go_big_quiet_step (first | exact alCro (specHallOk_v (uh Q0) ((uh Hv).below (alBrg _ _ _)).rooms) | exact alCro (specGuildsOk_q (uh Q1) ((uh Hv).below (alBrg _ _ _)).guilds) | exact alCro (l4Count_v (uh Q3) ((uh Hv).below (alBrg _ _ _)).rooms (uh QA)) | exact alCro (l1In_q (uh Q5) _)))
 refine wqn fun W1 hb => ?_
 clear c0 c1 c2 c3 c4 c5
 replace kb := bl kb hb
 replace Hv := hide ((uh Hv).below hb)
 replace BB := bt BB hb
 clear hb
 have H3 := hide h3
 have H4 := hide h4
 clear Hv Q0 Q1 Q3 Q5 QA h2d h3b h4b h3 h4
 have c3 := (uh kb).cell (i := 3) (v := .slice a3 m.desks.length p3) rfl
 go_wp2_with fail
 clear c3
 go_loopw [3, 4] (fun o i wr => ∃ k : Nat, k ≤ m.desks.length ∧ o = .bool (upOpen m k) ∧ i = .int .i64 k ∧ upDesks m k = true ∧ Blk wr w.heap.size 32 (S6 a0 p0 a1 p1 a2 p2 a3 p3 a4 p4 m) ∧ Below w.heap.size w wr) (fun _ i _ => m.desks.length - (intOf i).toNat)
 case atStart => exact ⟨0, alNzl _, rfl, rfl, rfl, uh kb, uh BB⟩
 case round =>
  obtain ⟨k, hk, rfl, rfl, hup, kb1, hb1⟩ := hrel
  clear kb BB
  have kb := hide kb1
  have BB := hide hb1
  have Hup := hide hup
  clear kb1 hb1 hup
  obtain ⟨ob, hob⟩ := alAx (upOpen m k)
  rw [hob]
  have Hob := hide hob
  clear hob
  have c3 := (uh kb).cell (i := 3) (v := .slice a3 m.desks.length p3) rfl
  by_cases hlt : k < m.desks.length
  ·rcases uh R3 with e0 | ⟨b, off, rfl, hbw, hcl⟩
   ·rw [e0] at hlt; simp at hlt
   obtain ⟨d0, d1, d2⟩ := desk_cells hcl hlt
   rw [← (uh BB).cell (p := ⟨b, off + k * 3, none⟩) hbw] at d0
   rw [← (uh BB).cell (p := ⟨b, off + k * 3 + 2, none⟩) hbw] at d2
   clear d1 hcl
   have HU := hide (show upDesks m (k + 1) = (upDesks m k && deskB (recAt m.desks k)) from all_up k)
   have HO := hide (show upOpen m (k + 1) = (upOpen m k || (recAt m.desks k).1) from any_up k)
   have HL := hide (looseB_desk (m := m) hlt)
   generalize recAt m.desks k = dd at *
   obtain ⟨op, who, mk⟩ := dd
   simp only at d0 d2
   cases hmk : inB mk (-900000000000) 900000000000
   ·cases ob
    all_goals
     go_wp2_with (go_at_call 129; refine (l1In_any _ _ _ _).mono ?_; rintro e w' ⟨rfl, h9⟩; subst w')
     go_ret
     exact ⟨ret_bool (uh HL hmk).symm, uh BB⟩
   ·cases ob
    all_goals
     go_wp2_with (go_at_call 129; refine (l1In_any _ _ _ _).mono ?_; rintro e w' ⟨rfl, h9⟩; subst w')
     go_roundw
     case rel => exact ⟨k + 1, by omega, by rw [uh HO, uh Hob]; simp, by go_num, by rw [uh HU, uh Hup]; exact hmk, uh kb, uh BB⟩
     case measure => exact ms
  ·obtain rfl : k = m.desks.length := by omega
   have QD := Hup
   clear Hup
   have c4 := (uh kb).cell (i := 4) (v := .slice a4 m.paces.length p4) rfl
   go_wp2_with fail
   clear c3 c4
   go_loopw [5] (fun i wr => ∃ k : Nat, k ≤ m.paces.length ∧ i = .int .i64 k ∧ upPaces m k = true ∧ Blk wr w.heap.size 32 (S6 a0 p0 a1 p1 a2 p2 a3 p3 a4 p4 m) ∧ Below w.heap.size w wr) (fun i _ => m.paces.length - (intOf i).toNat)
   case atStart => exact ⟨0, alNzl _, rfl, rfl, uh kb, uh BB⟩
   case round =>
    obtain ⟨k, hk, rfl, hup, kb1, hb1⟩ := hrel
    clear kb BB
    have kb := hide kb1
    have BB := hide hb1
    have Hup := hide hup
    clear kb1 hb1 hup
    have c0 := (uh kb).cell (i := 0) (v := .slice a0 m.rooms.length p0) rfl
    have c4 := (uh kb).cell (i := 4) (v := .slice a4 m.paces.length p4) rfl
    by_cases hlt : k < m.paces.length
    ·have hlr : k < m.rooms.length := by have := uh H4; omega
     rcases uh R4 with e0 | ⟨b, off, rfl, hbw, hcl⟩
     ·rw [e0] at hlt; simp at hlt
     rcases uh R0 with e0 | ⟨b', off', rfl, hbw', hcl'⟩
     ·rw [e0] at hlr; simp at hlr
     have d0 := num_cell hcl hlt
     obtain ⟨_, pv, d1, hip⟩ := hcl' k hlr
     rw [← (uh BB).cell (p := ⟨b, off + k, none⟩) hbw] at d0
     rw [← (uh BB).cell (p := ⟨b', off' + k * 2 + 1, none⟩) hbw'] at d1
     obtain ⟨pa, pcap, rfl, hpc, hpm, _⟩ := hip
     clear hcl hcl'
     have HU := hide (show upPaces m (k + 1) = (upPaces m k && paceInB m k) from all_up k)
     have HL := hide (looseB_pace (m := m) hlt)
     have HP := hide (show paceInB m k = inB (recAt m.paces k) 0 (((roomAt m.rooms k).2.length : Int) - 1) from rfl)
     generalize recAt m.paces k = z at *
     generalize (roomAt m.rooms k).2.length = nl at *
     have hwr : IntKind.i64.wrap ((nl : Int) - 1) = (nl : Int) - 1 := by rw [IntKind.wrap_i64]; omega
     cases hz : inB z 0 ((nl : Int) - 1)
     ·go_wp2_with fail
      go_quiet (exact alCqs (l1In_any _ _ _ _))
      go_wp2_with fail
      go_ret
      exact ⟨ret_bool (uh HL (by rw [uh HP]; exact hz)).symm, drewN_below (uh BB) _⟩
     ·go_wp2_with fail
      go_quiet (exact alCqs (l1In_any _ _ _ _))
      go_wp2_with fail
      go_roundw
      case rel => exact ⟨k + 1, by omega, by go_num, by rw [uh HU, uh Hup, uh HP, hz]; rfl, (uh kb).drewN _, drewN_below (uh BB) _⟩
      case measure => exact ms
    ·obtain rfl : k = m.paces.length := by omega
     have QP := Hup
     clear Hup
     have c2 := (uh kb).cell (i := 2) (v := .slice a2 m.smiths.length p2) rfl
     go_wp2_with fail
     clear c0 c2 c4
     go_loopw [6] (fun i wr => ∃ k : Nat, k ≤ m.smiths.length ∧ i = .int .i64 k ∧ upSmiths m k = true ∧ Blk wr w.heap.size 32 (S6 a0 p0 a1 p1 a2 p2 a3 p3 a4 p4 m) ∧ Below w.heap.size w wr) (fun i _ => m.smiths.length - (intOf i).toNat)
     case atStart => exact ⟨0, alNzl _, rfl, rfl, uh kb, uh BB⟩
     case round =>
      obtain ⟨k, hk, rfl, hup, kb1, hb1⟩ := hrel
      clear kb BB
      have kb := hide kb1
      have BB := hide hb1
      have Hup := hide hup
      clear kb1 hb1 hup
      have c1 := (uh kb).cell (i := 1) (v := .slice a1 m.guilds.length p1) rfl
      have c2 := (uh kb).cell (i := 2) (v := .slice a2 m.smiths.length p2) rfl
      have c3 := (uh kb).cell (i := 3) (v := .slice a3 m.desks.length p3) rfl
      by_cases hlt : k < m.smiths.length
      ·rcases uh R2 with e0 | ⟨b, off, rfl, hbw, hcl⟩
       ·rw [e0] at hlt; simp at hlt
       obtain ⟨d0, d1, d2, d3, d4, d5, d6, d7, d8, d9, d10⟩ := smith_cells hcl hlt
       rw [← (uh BB).cell (p := ⟨b, off + k * 11, none⟩) hbw] at d0
       rw [← (uh BB).cell (p := ⟨b, off + k * 11 + 1, none⟩) hbw] at d1
       rw [← (uh BB).cell (p := ⟨b, off + k * 11 + 2, none⟩) hbw] at d2
       rw [← (uh BB).cell (p := ⟨b, off + k * 11 + 3, none⟩) hbw] at d3
       rw [← (uh BB).cell (p := ⟨b, off + k * 11 + 4, none⟩) hbw] at d4
       rw [← (uh BB).cell (p := ⟨b, off + k * 11 + 5, none⟩) hbw] at d5
       rw [← (uh BB).cell (p := ⟨b, off + k * 11 + 6, none⟩) hbw] at d6
       rw [← (uh BB).cell (p := ⟨b, off + k * 11 + 7, none⟩) hbw] at d7
       rw [← (uh BB).cell (p := ⟨b, off + k * 11 + 8, none⟩) hbw] at d8
       rw [← (uh BB).cell (p := ⟨b, off + k * 11 + 9, none⟩) hbw] at d9
       rw [← (uh BB).cell (p := ⟨b, off + k * 11 + 10, none⟩) hbw] at d10
       clear hcl
       have HU := hide (show upSmiths m (k + 1) = (upSmiths m k && (hereB m (recAt m.smiths k) && seatB m (recAt m.smiths k))) from all_up k)
       have HL := hide (looseB_smith (m := m) hlt)
       generalize recAt m.smiths k = ss at *
       obtain ⟨st, be, rk, my, gu, lo, hi, hd, ca, ut, wk⟩ := ss
       simp only at d0 d1 d2 d3 d4 d5 d6 d7 d8 d9 d10
       have hl0 : w.heap.size < wr.heap.size := (uh kb).lt
       go_wp2_with fail
       clear c1 c2 c3 d0 d1 d2 d3 d4 d5 d6 d7 d8 d9 d10
       obtain ⟨qs, Hqs⟩ := alAn (smithB (st, be, rk, my, gu, lo, hi, hd, ca, ut, wk))
       refine ck (specSmithOk_q (uh Hqs) _) fun w1 hb => ?_
       have ks : Hid (Blk w1 wr.heap.size 38 (I11 st be rk my gu lo hi hd ca ut wk)) := hide ((Blk.new wr _ _).below hb (by simp))
       replace kb := hide (((uh kb).alloc (.cells (I11 st be rk my gu lo hi hd ca ut wk) 38)).below hb (by simp; omega))
       replace BB := hide ((((uh BB).alloc (uh BB).size (.cells (I11 st be rk my gu lo hi hd ca ut wk) 38))).trans (hb.mono (by simp; have := (uh BB).size; omega)))
       clear hb hl0
       generalize wr.heap.size = sb at *
       have c1 := (uh kb).cell (i := 1) (v := .slice a1 m.guilds.length p1) rfl
       have c3 := (uh kb).cell (i := 3) (v := .slice a3 m.desks.length p3) rfl
       have d0 := (uh ks).cell (i := 0) (v := .int .i64 st) rfl
       have d1 := (uh ks).cell (i := 1) (v := .int .i64 be) rfl
       have d4 := (uh ks).cell (i := 4) (v := .int .i64 gu) rfl
       cases qs
       ·go_wp2_with fail
        go_ret
        exact ⟨ret_bool (uh HL (by unfold hereB; rw [uh Hqs]; rfl)).symm, uh BB⟩
       ·by_cases hst : st = 0
        ·subst hst
         have hne : ((0 : Int) != 0) = false := rfl
         go_wp2_with fail
         have Hps : Hid (presS (0, be, rk, my, gu, lo, hi, hd, ca, ut, wk) = false) := hide rfl
         have e0 := alCrg ((uh ks).cell (i := 0) (v := .int .i64 0) rfl)
         have e1 := alCrg ((uh ks).cell (i := 1) (v := .int .i64 be) rfl)
         have e2 := alCrg ((uh ks).cell (i := 2) (v := .int .i64 rk) rfl)
         have e3 := alCrg ((uh ks).cell (i := 3) (v := .int .i64 my) rfl)
         have e4 := alCrg ((uh ks).cell (i := 4) (v := .int .i64 gu) rfl)
         have e5 := alCrg ((uh ks).cell (i := 5) (v := .int .i64 lo) rfl)
         have e6 := alCrg ((uh ks).cell (i := 6) (v := .int .i64 hi) rfl)
         have e7 := alCrg ((uh ks).cell (i := 7) (v := .int .i64 hd) rfl)
         have e8 := alCrg ((uh ks).cell (i := 8) (v := .int .i64 ca) rfl)
         have e9 := alCrg ((uh ks).cell (i := 9) (v := .int .i64 ut) rfl)
         have e10 := alCrg ((uh ks).cell (i := 10) (v := .int .i64 wk) rfl)
         refine wq ?_
         repeat (go_big_quiet_step (first | exact alCro (l11Present_q (uh Hps) _)))
         refine wqn fun W1 hb => ?_
         replace kb := bl kb hb
         replace BB := bt BB hb
         clear hb
         go_wp2_with fail
         go_roundw
         case rel => exact ⟨k + 1, by omega, by go_num, by rw [uh HU, uh Hup]; unfold hereB seatB; rw [uh Hqs, uh Hps]; rfl, uh kb, uh BB⟩
         case measure => exact ms
        have hne : (st != 0) = true := by simpa using hst
        by_cases hgu : (m.guilds.length : Int) ≤ gu
        ·go_wp2_with fail
         go_ret
         exact ⟨ret_bool (uh HL (by unfold hereB; rw [uh Hqs]; simp [hst]; intro h9; omega)).symm, uh BB⟩
        by_cases hbe : (m.desks.length : Int) ≤ be
        ·go_wp2_with fail
         go_ret
         exact ⟨ret_bool (uh HL (by unfold hereB; rw [uh Hqs]; simp [hst]; intro h9; omega)).symm, uh BB⟩
        go_wp2_with fail
        have Hh : Hid (hereB m (st, be, rk, my, gu, lo, hi, hd, ca, ut, wk) = true) := hide (by unfold hereB; rw [uh Hqs]; simp; omega)
        obtain ⟨ps, Hps⟩ := alAn (presS (st, be, rk, my, gu, lo, hi, hd, ca, ut, wk))
        have e0 := alCrg ((uh ks).cell (i := 0) (v := .int .i64 st) rfl)
        have e1 := alCrg ((uh ks).cell (i := 1) (v := .int .i64 be) rfl)
        have e2 := alCrg ((uh ks).cell (i := 2) (v := .int .i64 rk) rfl)
        have e3 := alCrg ((uh ks).cell (i := 3) (v := .int .i64 my) rfl)
        have e4 := alCrg ((uh ks).cell (i := 4) (v := .int .i64 gu) rfl)
        have e5 := alCrg ((uh ks).cell (i := 5) (v := .int .i64 lo) rfl)
        have e6 := alCrg ((uh ks).cell (i := 6) (v := .int .i64 hi) rfl)
        have e7 := alCrg ((uh ks).cell (i := 7) (v := .int .i64 hd) rfl)
        have e8 := alCrg ((uh ks).cell (i := 8) (v := .int .i64 ca) rfl)
        have e9 := alCrg ((uh ks).cell (i := 9) (v := .int .i64 ut) rfl)
        have e10 := alCrg ((uh ks).cell (i := 10) (v := .int .i64 wk) rfl)
        have e11 := alCrg ((uh kb).cell (i := 3) (v := .slice a3 m.desks.length p3) rfl)
        cases ps
        ·refine wq ?_
         repeat (go_big_quiet_step (first | exact alCro (l11Present_q (uh Hps) _)))
         refine wqn fun W1 hb => ?_
         replace kb := bl kb hb
         replace BB := bt BB hb
         clear hb
         go_wp2_with fail
         go_roundw
         case rel => exact ⟨k + 1, by omega, by go_num, by rw [uh HU, uh Hup]; rw [uh Hh]; unfold seatB; rw [uh Hps]; rfl, uh kb, uh BB⟩
         case measure => exact ms
        obtain ⟨b0, b1, b2, m0, m1, _⟩ := hereB_of (uh Hh) (uh Hps)
        simp only at b0 b1 b2 m0 m1
        obtain ⟨j, rfl⟩ : ∃ j : Nat, be = j := ⟨be.toNat, by omega⟩
        have hj : j < m.desks.length := by omega
        rcases uh R3 with e9 | ⟨b', off', rfl, hbw', hcl'⟩
        ·rw [e9] at hj; simp at hj
        obtain ⟨t0, _, t2⟩ := desk_cells hcl' hj
        rw [← (uh BB).cell (p := ⟨b', off' + j * 3, none⟩) hbw'] at t0
        rw [← (uh BB).cell (p := ⟨b', off' + j * 3 + 2, none⟩) hbw'] at t2
        clear hcl'
        have HS := hide (show seatB m (st, (j : Int), rk, my, gu, lo, hi, hd, ca, ut, wk) = (!presS (st, (j : Int), rk, my, gu, lo, hi, hd, ca, ut, wk) || ((recAt m.desks j).1 && (bitB my j && bandB hd (recAt m.desks j).2.2))) from rfl)
        generalize recAt m.desks j = dd at *
        obtain ⟨op, who, mk⟩ := dd
        simp only at t0 t2
        have t0 := alCrg t0
        have t2 := alCrg t2
        obtain ⟨qb, hqb⟩ := alAx (bitB my j)
        have Hbit := hide hqb
        obtain ⟨qd, Hbd⟩ := alAn (bandB hd mk)
        clear hqb
        have HS2 := uh HS
        simp only [uh Hps, uh Hbit, uh Hbd] at HS2
        have HS3 := hide HS2
        clear HS HS2
        cases op
        ·refine wq ?_
         repeat (go_big_quiet_step (first | exact alCro (l11Present_q (uh Hps) _) | exact alCro (l2Has_q (uh Hbit) (by omega) (by omega) (by omega) (by omega) _) | exact alCro (specInBand_q (uh Hbd) _)))
         refine wqn fun W1 hb => ?_
         replace kb := bl kb hb
         replace BB := bt BB hb
         clear hb
         go_wp2_with fail
         go_ret
         exact ⟨ret_bool (uh HL (by rw [uh HS3]; simp)).symm, uh BB⟩
        cases qb
        ·refine wq ?_
         repeat (go_big_quiet_step (first | exact alCro (l11Present_q (uh Hps) _) | exact alCro (l2Has_q (uh Hbit) (by omega) (by omega) (by omega) (by omega) _) | exact alCro (specInBand_q (uh Hbd) _)))
         refine wqn fun W1 hb => ?_
         replace kb := bl kb hb
         replace BB := bt BB hb
         clear hb
         go_wp2_with fail
         go_ret
         exact ⟨ret_bool (uh HL (by rw [uh HS3]; simp)).symm, uh BB⟩
        cases qd
        ·refine wq ?_
         repeat (go_big_quiet_step (first | exact alCro (l11Present_q (uh Hps) _) | exact alCro (l2Has_q (uh Hbit) (by omega) (by omega) (by omega) (by omega) _) | exact alCro (specInBand_q (uh Hbd) _)))
         refine wqn fun W1 hb => ?_
         replace kb := bl kb hb
         replace BB := bt BB hb
         clear hb
         go_wp2_with fail
         go_ret
         exact ⟨ret_bool (uh HL (by rw [uh HS3]; simp)).symm, uh BB⟩
        refine wq ?_
        repeat (go_big_quiet_step (first | exact alCro (l11Present_q (uh Hps) _) | exact alCro (l2Has_q (uh Hbit) (by omega) (by omega) (by omega) (by omega) _) | exact alCro (specInBand_q (uh Hbd) _)))
        refine wqn fun W1 hb => ?_
        replace kb := bl kb hb
        replace BB := bt BB hb
        clear hb
        go_wp2_with fail
        go_roundw
        case rel => exact ⟨k + 1, by omega, by go_num, by rw [uh HU, uh Hup]; rw [uh Hh, uh HS3]; rfl, uh kb, uh BB⟩
        case measure => exact ms
      ·obtain rfl : k = m.smiths.length := by omega
       go_wp2_with fail
       go_ret
       exact ⟨ret_bool (by rw [looseB_all (uh QH) (uh QD) (uh QP) (uh Hup)]; exact (uh Hob).symm), uh BB⟩
theorem szHall_le {w : World} {v : Value} {rs : List RoomV} (h : IsRooms w v rs) (left : Int) (h0 : 0 ≤ left) (h1 : left ≤ 1048576) :
  Calls prog 89 #[.agg #[v], .int .i64 left] w fun e w' => ∃ x : Int, e = .returned (.int .i64 x) ∧ x ≤ 1048576 ∧ (0 ≤ x → Small rs) ∧ Below w.heap.size w w' := by
 have Hv := hide h
 obtain ⟨a, cap, rfl, hc, hm, hr⟩ := h
 clear hr
 go_enter func89, ntmps89
 go_wp2_with fail
 refine (szRoomS_any ((uh Hv).alloc _) left h0 h1).mono ?_
 rintro e w1 ⟨x, rfl, x1, hx, hb⟩
 have Hx := hide hx
 have Hb := hide hb
 clear hx hb
 by_cases hx0 : x < 0
 ·go_wp2_with fail
  go_ret
  exact ⟨-1, rfl, by omega, fun h => by omega, ((ba _ _)).trans ((uh Hb).mono (by simp))⟩
 ·go_wp2_with fail
  go_ret
  exact ⟨x, rfl, x1, uh Hx, ((ba _ _)).trans ((uh Hb).mono (by simp))⟩
theorem szSmithy_any {w : World} {v0 v1 v2 v3 v4 : Value} {m : SmyV} (h : Smy w v0 v1 v2 v3 v4 m) :
  Calls prog 41 #[.agg #[v0, v1, v2, v3, v4, .int .i64 m.now], .int .i64 1048576] w fun e w' => ∃ x : Int, e = .returned (.int .i64 x) ∧ (0 ≤ x → SmySmall m) ∧ Below w.heap.size w w' := by
 have Hv := hide h
 obtain ⟨a0, p0, rfl, _, _⟩ := IsRooms.shape h.rooms
 obtain ⟨a1, p1, rfl, hc1, hm1⟩ := IsRec.shape h.guilds
 obtain ⟨a2, p2, rfl, hc2, hm2⟩ := IsRec.shape h.smiths
 obtain ⟨a3, p3, rfl, hc3, hm3⟩ := IsRec.shape h.desks
 obtain ⟨a4, p4, rfl, hc4, hm4⟩ := IsRec.shape h.paces
 clear h
 go_enter func41, ntmps41
 go_wp2_with fail
 refine (szHall_le ((uh Hv).alloc _).rooms _ (by omega) (by omega)).mono ?_
 rintro e w1 ⟨x, rfl, x1, hx, hb⟩
 have kb : Hid (Blk w1 w.heap.size 64 (S6 a0 p0 a1 p1 a2 p2 a3 p3 a4 p4 m)) := hide ((Blk.new w _ _).below hb (by simp))
 have BB : Hid (Below w.heap.size w w1) := hide (((ba _ _)).trans (hb.mono (by simp)))
 have Hx := hide hx
 clear hx hb
 have c1 := (uh kb).cell (i := 1) (v := .slice a1 m.guilds.length p1) rfl
 have c2 := (uh kb).cell (i := 2) (v := .slice a2 m.smiths.length p2) rfl
 have c3 := (uh kb).cell (i := 3) (v := .slice a3 m.desks.length p3) rfl
 have c4 := (uh kb).cell (i := 4) (v := .slice a4 m.paces.length p4) rfl
 by_cases hx0 : x < 0
 ·go_wp2_with fail
  go_ret
  exact ⟨-1, rfl, fun h => by omega, uh BB⟩
 go_wp2_with fail
 refine (szGuildS_any _ _ _ _ (by omega) (by omega) (by omega) _).mono ?_
 by_cases g0 : x - (m.guilds.length : Int) < 0
 ·rw [szV_f g0]
  rintro e w' ⟨rfl, h9⟩
  subst w'
  go_wp2_with fail
  go_ret
  exact ⟨-1, rfl, fun h => by omega, uh BB⟩
 rw [szV_t g0]
 rintro e w' ⟨rfl, h9⟩
 subst w'
 go_wp2_with fail
 refine (szSmithS_any _ _ _ _ (by omega) (by omega) (by omega) _).mono ?_
 by_cases g1 : x - (m.guilds.length : Int) - (m.smiths.length : Int) < 0
 ·rw [szV_f g1]
  rintro e w' ⟨rfl, h9⟩
  subst w'
  go_wp2_with fail
  go_ret
  exact ⟨-1, rfl, fun h => by omega, uh BB⟩
 rw [szV_t g1]
 rintro e w' ⟨rfl, h9⟩
 subst w'
 go_wp2_with fail
 refine (szDeskS_any _ _ _ _ (by omega) (by omega) (by omega) _).mono ?_
 by_cases g2 : x - (m.guilds.length : Int) - (m.smiths.length : Int) - (m.desks.length : Int) < 0
 ·rw [szV_f g2]
  rintro e w' ⟨rfl, h9⟩
  subst w'
  go_wp2_with fail
  go_ret
  exact ⟨-1, rfl, fun h => by omega, uh BB⟩
 rw [szV_t g2]
 rintro e w' ⟨rfl, h9⟩
 subst w'
 go_wp2_with fail
 refine (szInt64S_any _ _ _ _ (by omega) (by omega) (by omega) _).mono ?_
 by_cases g3 : x - (m.guilds.length : Int) - (m.smiths.length : Int) - (m.desks.length : Int) - (m.paces.length : Int) < 0
 ·rw [szV_f g3]
  rintro e w' ⟨rfl, h9⟩
  subst w'
  go_wp2_with fail
  go_ret
  exact ⟨-1, rfl, fun h => by omega, uh BB⟩
 rw [szV_t g3]
 rintro e w' ⟨rfl, h9⟩
 subst w'
 go_wp2_with fail
 go_ret
 exact ⟨_, rfl, fun _ => ⟨uh Hx (by omega), by omega, by omega, by omega, by omega⟩, uh BB⟩
theorem toHall_own {w : World} {v : Value} {rs : List RoomV} (h : IsRooms w v rs) (hs : Small rs) :
  Calls prog 94 #[.agg #[v]] w fun e w' => ∃ v', e = .returned (.agg #[v']) ∧ RoomsFrom w.heap.size w' v' rs ∧ Below w.heap.size w w' := by
 have Hv := hide h
 obtain ⟨a, cap, rfl, hc, hm, hr⟩ := h
 clear hr
 have Hb0 : Hid (∀ o1 o2 o3 : Obj, Below w.heap.size w (((w.alloc o1).alloc o2).alloc o3)) := hide (fun o1 o2 o3 => (((ba _ _)).alloc (by simp) _).alloc (by simp; omega) _)
 go_enter func94, ntmps94
 go_wp2_with fail
 refine (toRoomS_any ((uh Hv).below (uh Hb0 _ _ _)) hs).mono ?_
 rintro e w1 ⟨v', rfl, hp, hb1⟩
 simp only [alWsa] at hp
 have hsz : w.heap.size + 3 ≤ w1.heap.size := by have := hb1.size; simp at this; omega
 obtain ⟨cc, ff⟩ := bcell hb1
 have x0 := cc (w.heap.size + 2) 0 (by simp)
 have y0 := cc (w.heap.size + 1) 0 (by simp)
 have fx0 := ff (w.heap.size + 2) 0 (by simp)
 have fy0 := ff (w.heap.size + 1) 0 (by simp)
 have Hp := hide hp
 have Hb1 := hide hb1
 obtain ⟨a', cap', rfl, _⟩ := hp
 clear cc ff hb1
 go_wp2_with fail
 have B1 : Below w.heap.size w w1 := (uh Hb0 _ _ _).trans ((uh Hb1).mono (by simp; omega))
 refine alBpr (v := .agg #[.slice a' rs.length cap']) (by simp [results, results94, go_sem, *]) rfl ⟨_, rfl, ?_, ?_⟩
 ·exact (((uh Hp).set _ _ _ (by omega)).set _ _ _ (by omega)).mono (by omega)
 ·exact (B1.setCell (by show _ ≤ w.heap.size + 1 + 1; omega) _).setCell (by show _ ≤ w.heap.size + 1; omega) _
theorem toSmithy_any {w : World} {v0 v1 v2 v3 v4 : Value} {m : SmyV} (h : Smy w v0 v1 v2 v3 v4 m) (hs : SmySmall m) :
  Calls prog 42 #[.agg #[v0, v1, v2, v3, v4, .int .i64 m.now]] w fun e w' => ∃ u0 u1 u2 u3 u4, e = .returned (.agg #[u0, u1, u2, u3, u4, .int .i64 m.now]) ∧ OwnSmy w.heap.size w' u0 u1 u2 u3 u4 m ∧ Below w.heap.size w w' := by
 have Hv := hide h
 have Hs := hide hs
 obtain ⟨a0, p0, rfl, _, _⟩ := IsRooms.shape h.rooms
 obtain ⟨a1, p1, rfl, hc1, hm1⟩ := IsRec.shape h.guilds
 obtain ⟨a2, p2, rfl, hc2, hm2⟩ := IsRec.shape h.smiths
 obtain ⟨a3, p3, rfl, hc3, hm3⟩ := IsRec.shape h.desks
 obtain ⟨a4, p4, rfl, hc4, hm4⟩ := IsRec.shape h.paces
 clear h hs
 go_enter func42, ntmps42
 go_wp2_with fail
 have BB : Hid (Below w.heap.size w (((w.alloc (.cells (S6 a0 p0 a1 p1 a2 p2 a3 p3 a4 p4 m) 64)).alloc (.cells E6 32)).alloc (.cells E6 32))) := hide ((((ba _ _)).alloc (by simp) _).alloc (by simp; omega) _)
 have ka : Hid (Blk (((w.alloc (.cells (S6 a0 p0 a1 p1 a2 p2 a3 p3 a4 p4 m) 64)).alloc (.cells E6 32)).alloc (.cells E6 32)) w.heap.size 64 (S6 a0 p0 a1 p1 a2 p2 a3 p3 a4 p4 m)) := hide (((Blk.new w _ _).alloc _).alloc _)
 have kr : Hid (Blk (((w.alloc (.cells (S6 a0 p0 a1 p1 a2 p2 a3 p3 a4 p4 m) 64)).alloc (.cells E6 32)).alloc (.cells E6 32)) (w.heap.size + 1) 32 E6) := hide (by
  have k := Blk.new (w.alloc (.cells (S6 a0 p0 a1 p1 a2 p2 a3 p3 a4 p4 m) 64)) 32 E6
  rw [alWsa] at k
  exact k.alloc _)
 have ko : Hid (Blk (((w.alloc (.cells (S6 a0 p0 a1 p1 a2 p2 a3 p3 a4 p4 m) 64)).alloc (.cells E6 32)).alloc (.cells E6 32)) (w.heap.size + 1 + 1) 32 E6) := hide (by
  have k := Blk.new ((w.alloc (.cells (S6 a0 p0 a1 p1 a2 p2 a3 p3 a4 p4 m) 64)).alloc (.cells E6 32)) 32 E6
  rw [alWsa, alWsa] at k
  exact k)
 generalize ((w.alloc (.cells (S6 a0 p0 a1 p1 a2 p2 a3 p3 a4 p4 m) 64)).alloc (.cells E6 32)).alloc (.cells E6 32) = W at *
 have hW : w.heap.size + 3 ≤ W.heap.size := by have := (uh ko).lt; omega
 refine (toHall_own ((uh Hv).below (uh BB)).rooms (uh Hs).rooms).mono ?_
 rintro e w1 ⟨u0, rfl, hp, hb⟩
 have n0 : Hid (RoomsFrom (w.heap.size + 3) w1 u0 m.rooms) := hide (hp.mono hW)
 replace ka := bl ka hb
 replace kr := bl kr hb
 replace ko := bl ko hb
 replace BB := bt BB hb
 have hW2 : w.heap.size + 3 ≤ w1.heap.size := by have := hb.size; omega
 obtain ⟨b0, q0, rfl, _⟩ := hp
 clear hb
 have o0 := (uh ko).cell (i := 0) (v := .slice none 0 0) rfl
 have f0 := (uh ko).free 0
 have c1 := (uh ka).cell (i := 1) (v := .slice a1 m.guilds.length p1) rfl
 go_wp2_with fail
 replace ka : Hid (Blk (w1.setCell ⟨w.heap.size + 1 + 1, 0, none⟩ (.slice b0 m.rooms.length q0)) w.heap.size 64 (S6 a0 p0 a1 p1 a2 p2 a3 p3 a4 p4 m)) := hide ((uh ka).other (a := ⟨w.heap.size + 1 + 1, 0, none⟩) (by show w.heap.size ≠ w.heap.size + 1 + 1; omega) _)
 replace kr : Hid (Blk (w1.setCell ⟨w.heap.size + 1 + 1, 0, none⟩ (.slice b0 m.rooms.length q0)) (w.heap.size + 1) 32 E6) := hide ((uh kr).other (a := ⟨w.heap.size + 1 + 1, 0, none⟩) (by show w.heap.size + 1 ≠ w.heap.size + 1 + 1; omega) _)
 replace ko : Hid (Blk (w1.setCell ⟨w.heap.size + 1 + 1, 0, none⟩ (.slice b0 m.rooms.length q0)) (w.heap.size + 1 + 1) 32 #[.slice b0 m.rooms.length q0, .slice none 0 0, .slice none 0 0, .slice none 0 0, .slice none 0 0, .int .i64 0]) := hide ((uh ko).set 0 _)
 replace n0 := hide ((uh n0).set (w.heap.size + 1 + 1) 0 (.slice b0 m.rooms.length q0) (by omega))
 replace BB : Hid (Below w.heap.size w (w1.setCell ⟨w.heap.size + 1 + 1, 0, none⟩ (.slice b0 m.rooms.length q0))) := hide ((uh BB).setCell (p := ⟨w.heap.size + 1 + 1, 0, none⟩) (by show w.heap.size ≤ w.heap.size + 1 + 1; omega) _)
 have hW3 : w.heap.size + 3 ≤ (w1.setCell ⟨w.heap.size + 1 + 1, 0, none⟩ (.slice b0 m.rooms.length q0)).heap.size := by have := (uh ko).lt; omega
 clear o0 f0 c1 hW hW2
 generalize (w1.setCell ⟨w.heap.size + 1 + 1, 0, none⟩ (.slice b0 m.rooms.length q0)) = W at *
 have hW := hW3
 clear hW3
 refine (toGuildS_any ((uh Hv).below (uh BB)).guilds (uh Hs).guilds).mono ?_
 rintro e w2 ⟨u1, rfl, hp, hb⟩
 have n1 : Hid (GuildsAt (w.heap.size + 3) w2 u1 m.guilds) := hide (RecAt.mono hp hW)
 replace n0 := hide ((uh n0).below hb)
 replace ka := bl ka hb
 replace kr := bl kr hb
 replace ko := bl ko hb
 replace BB := bt BB hb
 have hW2 : w.heap.size + 3 ≤ w2.heap.size := by have := hb.size; omega
 obtain ⟨b1, q1, rfl⟩ := RecAt.shape hp
 clear hp hb
 have o1 := (uh ko).cell (i := 1) (v := .slice none 0 0) rfl
 have f1 := (uh ko).free 1
 have c2 := (uh ka).cell (i := 2) (v := .slice a2 m.smiths.length p2) rfl
 go_wp2_with fail
 replace ka : Hid (Blk (w2.setCell ⟨w.heap.size + 1 + 1, 1, none⟩ (.slice b1 m.guilds.length q1)) w.heap.size 64 (S6 a0 p0 a1 p1 a2 p2 a3 p3 a4 p4 m)) := hide ((uh ka).other (a := ⟨w.heap.size + 1 + 1, 1, none⟩) (by show w.heap.size ≠ w.heap.size + 1 + 1; omega) _)
 replace kr : Hid (Blk (w2.setCell ⟨w.heap.size + 1 + 1, 1, none⟩ (.slice b1 m.guilds.length q1)) (w.heap.size + 1) 32 E6) := hide ((uh kr).other (a := ⟨w.heap.size + 1 + 1, 1, none⟩) (by show w.heap.size + 1 ≠ w.heap.size + 1 + 1; omega) _)
 replace ko : Hid (Blk (w2.setCell ⟨w.heap.size + 1 + 1, 1, none⟩ (.slice b1 m.guilds.length q1)) (w.heap.size + 1 + 1) 32 #[.slice b0 m.rooms.length q0, .slice b1 m.guilds.length q1, .slice none 0 0, .slice none 0 0, .slice none 0 0, .int .i64 0]) := hide ((uh ko).set 1 _)
 replace n0 := hide ((uh n0).set (w.heap.size + 1 + 1) 1 (.slice b1 m.guilds.length q1) (by omega))
 replace n1 := hide (RecAt.set_old (uh n1) (w.heap.size + 1 + 1) 1 (.slice b1 m.guilds.length q1) (by omega))
 replace BB : Hid (Below w.heap.size w (w2.setCell ⟨w.heap.size + 1 + 1, 1, none⟩ (.slice b1 m.guilds.length q1))) := hide ((uh BB).setCell (p := ⟨w.heap.size + 1 + 1, 1, none⟩) (by show w.heap.size ≤ w.heap.size + 1 + 1; omega) _)
 have hW3 : w.heap.size + 3 ≤ (w2.setCell ⟨w.heap.size + 1 + 1, 1, none⟩ (.slice b1 m.guilds.length q1)).heap.size := by have := (uh ko).lt; omega
 clear o1 f1 c2 hW hW2
 generalize (w2.setCell ⟨w.heap.size + 1 + 1, 1, none⟩ (.slice b1 m.guilds.length q1)) = W at *
 have hW := hW3
 clear hW3
 refine (toSmithS_any ((uh Hv).below (uh BB)).smiths (uh Hs).smiths).mono ?_
 rintro e w3 ⟨u2, rfl, hp, hb⟩
 have n2 : Hid (SmithsAt (w.heap.size + 3) w3 u2 m.smiths) := hide (RecAt.mono hp hW)
 replace n0 := hide ((uh n0).below hb)
 replace n1 := hide (RecAt.later (uh n1) hb)
 replace ka := bl ka hb
 replace kr := bl kr hb
 replace ko := bl ko hb
 replace BB := bt BB hb
 have hW2 : w.heap.size + 3 ≤ w3.heap.size := by have := hb.size; omega
 obtain ⟨b2, q2, rfl⟩ := RecAt.shape hp
 clear hp hb
 have o2 := (uh ko).cell (i := 2) (v := .slice none 0 0) rfl
 have f2 := (uh ko).free 2
 have c3 := (uh ka).cell (i := 3) (v := .slice a3 m.desks.length p3) rfl
 go_wp2_with fail
 replace ka : Hid (Blk (w3.setCell ⟨w.heap.size + 1 + 1, 2, none⟩ (.slice b2 m.smiths.length q2)) w.heap.size 64 (S6 a0 p0 a1 p1 a2 p2 a3 p3 a4 p4 m)) := hide ((uh ka).other (a := ⟨w.heap.size + 1 + 1, 2, none⟩) (by show w.heap.size ≠ w.heap.size + 1 + 1; omega) _)
 replace kr : Hid (Blk (w3.setCell ⟨w.heap.size + 1 + 1, 2, none⟩ (.slice b2 m.smiths.length q2)) (w.heap.size + 1) 32 E6) := hide ((uh kr).other (a := ⟨w.heap.size + 1 + 1, 2, none⟩) (by show w.heap.size + 1 ≠ w.heap.size + 1 + 1; omega) _)
 replace ko : Hid (Blk (w3.setCell ⟨w.heap.size + 1 + 1, 2, none⟩ (.slice b2 m.smiths.length q2)) (w.heap.size + 1 + 1) 32 #[.slice b0 m.rooms.length q0, .slice b1 m.guilds.length q1, .slice b2 m.smiths.length q2, .slice none 0 0, .slice none 0 0, .int .i64 0]) := hide ((uh ko).set 2 _)
 replace n0 := hide ((uh n0).set (w.heap.size + 1 + 1) 2 (.slice b2 m.smiths.length q2) (by omega))
 replace n1 := hide (RecAt.set_old (uh n1) (w.heap.size + 1 + 1) 2 (.slice b2 m.smiths.length q2) (by omega))
 replace n2 := hide (RecAt.set_old (uh n2) (w.heap.size + 1 + 1) 2 (.slice b2 m.smiths.length q2) (by omega))
 replace BB : Hid (Below w.heap.size w (w3.setCell ⟨w.heap.size + 1 + 1, 2, none⟩ (.slice b2 m.smiths.length q2))) := hide ((uh BB).setCell (p := ⟨w.heap.size + 1 + 1, 2, none⟩) (by show w.heap.size ≤ w.heap.size + 1 + 1; omega) _)
 have hW3 : w.heap.size + 3 ≤ (w3.setCell ⟨w.heap.size + 1 + 1, 2, none⟩ (.slice b2 m.smiths.length q2)).heap.size := by have := (uh ko).lt; omega
 clear o2 f2 c3 hW hW2
 generalize (w3.setCell ⟨w.heap.size + 1 + 1, 2, none⟩ (.slice b2 m.smiths.length q2)) = W at *
 have hW := hW3
 clear hW3
 refine (toDeskS_any ((uh Hv).below (uh BB)).desks (uh Hs).desks).mono ?_
 rintro e w4 ⟨u3, rfl, hp, hb⟩
 have n3 : Hid (DesksAt (w.heap.size + 3) w4 u3 m.desks) := hide (RecAt.mono hp hW)
 replace n0 := hide ((uh n0).below hb)
 replace n1 := hide (RecAt.later (uh n1) hb)
 replace n2 := hide (RecAt.later (uh n2) hb)
 replace ka := bl ka hb
 replace kr := bl kr hb
 replace ko := bl ko hb
 replace BB := bt BB hb
 have hW2 : w.heap.size + 3 ≤ w4.heap.size := by have := hb.size; omega
 obtain ⟨b3, q3, rfl⟩ := RecAt.shape hp
 clear hp hb
 have o3 := (uh ko).cell (i := 3) (v := .slice none 0 0) rfl
 have f3 := (uh ko).free 3
 have c4 := (uh ka).cell (i := 4) (v := .slice a4 m.paces.length p4) rfl
 go_wp2_with fail
 replace ka : Hid (Blk (w4.setCell ⟨w.heap.size + 1 + 1, 3, none⟩ (.slice b3 m.desks.length q3)) w.heap.size 64 (S6 a0 p0 a1 p1 a2 p2 a3 p3 a4 p4 m)) := hide ((uh ka).other (a := ⟨w.heap.size + 1 + 1, 3, none⟩) (by show w.heap.size ≠ w.heap.size + 1 + 1; omega) _)
 replace kr : Hid (Blk (w4.setCell ⟨w.heap.size + 1 + 1, 3, none⟩ (.slice b3 m.desks.length q3)) (w.heap.size + 1) 32 E6) := hide ((uh kr).other (a := ⟨w.heap.size + 1 + 1, 3, none⟩) (by show w.heap.size + 1 ≠ w.heap.size + 1 + 1; omega) _)
 replace ko : Hid (Blk (w4.setCell ⟨w.heap.size + 1 + 1, 3, none⟩ (.slice b3 m.desks.length q3)) (w.heap.size + 1 + 1) 32 #[.slice b0 m.rooms.length q0, .slice b1 m.guilds.length q1, .slice b2 m.smiths.length q2, .slice b3 m.desks.length q3, .slice none 0 0, .int .i64 0]) := hide ((uh ko).set 3 _)
 replace n0 := hide ((uh n0).set (w.heap.size + 1 + 1) 3 (.slice b3 m.desks.length q3) (by omega))
 replace n1 := hide (RecAt.set_old (uh n1) (w.heap.size + 1 + 1) 3 (.slice b3 m.desks.length q3) (by omega))
 replace n2 := hide (RecAt.set_old (uh n2) (w.heap.size + 1 + 1) 3 (.slice b3 m.desks.length q3) (by omega))
 replace n3 := hide (RecAt.set_old (uh n3) (w.heap.size + 1 + 1) 3 (.slice b3 m.desks.length q3) (by omega))
 replace BB : Hid (Below w.heap.size w (w4.setCell ⟨w.heap.size + 1 + 1, 3, none⟩ (.slice b3 m.desks.length q3))) := hide ((uh BB).setCell (p := ⟨w.heap.size + 1 + 1, 3, none⟩) (by show w.heap.size ≤ w.heap.size + 1 + 1; omega) _)
 have hW3 : w.heap.size + 3 ≤ (w4.setCell ⟨w.heap.size + 1 + 1, 3, none⟩ (.slice b3 m.desks.length q3)).heap.size := by have := (uh ko).lt; omega
 clear o3 f3 c4 hW hW2
 generalize (w4.setCell ⟨w.heap.size + 1 + 1, 3, none⟩ (.slice b3 m.desks.length q3)) = W at *
 have hW := hW3
 clear hW3
 refine (toInt64S_any ((uh Hv).below (uh BB)).paces (uh Hs).paces).mono ?_
 rintro e w5 ⟨u4, rfl, hp, hb⟩
 have n4 : Hid (NumsAt (w.heap.size + 3) w5 u4 m.paces) := hide (RecAt.mono hp hW)
 replace n0 := hide ((uh n0).below hb)
 replace n1 := hide (RecAt.later (uh n1) hb)
 replace n2 := hide (RecAt.later (uh n2) hb)
 replace n3 := hide (RecAt.later (uh n3) hb)
 replace ka := bl ka hb
 replace kr := bl kr hb
 replace ko := bl ko hb
 replace BB := bt BB hb
 have hW2 : w.heap.size + 3 ≤ w5.heap.size := by have := hb.size; omega
 obtain ⟨b4, q4, rfl⟩ := RecAt.shape hp
 clear hp hb
 have o4 := (uh ko).cell (i := 4) (v := .slice none 0 0) rfl
 have f4 := (uh ko).free 4
 have o0 := (uh ko).cell (i := 0) (v := .slice b0 m.rooms.length q0) rfl
 have r0 := (uh kr).cell (i := 0) (v := .slice none 0 0) rfl
 have rf0 := (uh kr).free 0
 have o1 := (uh ko).cell (i := 1) (v := .slice b1 m.guilds.length q1) rfl
 have r1 := (uh kr).cell (i := 1) (v := .slice none 0 0) rfl
 have rf1 := (uh kr).free 1
 have o2 := (uh ko).cell (i := 2) (v := .slice b2 m.smiths.length q2) rfl
 have r2 := (uh kr).cell (i := 2) (v := .slice none 0 0) rfl
 have rf2 := (uh kr).free 2
 have o3 := (uh ko).cell (i := 3) (v := .slice b3 m.desks.length q3) rfl
 have r3 := (uh kr).cell (i := 3) (v := .slice none 0 0) rfl
 have rf3 := (uh kr).free 3
 have r4 := (uh kr).cell (i := 4) (v := .slice none 0 0) rfl
 have rf4 := (uh kr).free 4
 have o5 := (uh ko).cell (i := 5) (v := .int .i64 0) rfl
 have r5 := (uh kr).cell (i := 5) (v := .int .i64 0) rfl
 have rf5 := (uh kr).free 5
 have f5 := (uh ko).free 5
 have c5 := (uh ka).cell (i := 5) (v := .int .i64 m.now) rfl
 go_wp2_with fail
 refine alBpr (v := .agg (S6 b0 q0 b1 q1 b2 q2 b3 q3 b4 q4 m)) (by simp [results, results42, go_sem, r0, r1, r2, r3, r4, r5]) rfl ⟨_, _, _, _, _, rfl, ?_, ?_⟩
 ·refine OwnSmy.mono ?_ (show w.heap.size ≤ w.heap.size + 3 by omega)
  iterate 8 (refine OwnSmy.set ?_ _ _ _ (by omega))
  exact ⟨uh n0, uh n1, uh n2, uh n3, uh n4⟩
 ·iterate 8 (refine alBsc ?_ (by first | (show _ ≤ w.heap.size + 1 + 1; omega) | (show _ ≤ w.heap.size + 1; omega)) _)
  exact uh BB
theorem eqSmithy_yes {w : World} {v0 v1 v2 v3 v4 u0 u1 u2 u3 u4 : Value} {m : SmyV} (h : Smy w v0 v1 v2 v3 v4 m) (k : Smy w u0 u1 u2 u3 u4 m) :
  cB 43 #[.agg #[v0, v1, v2, v3, v4, .int .i64 m.now], .agg #[u0, u1, u2, u3, u4, .int .i64 m.now]] w (.bool true) := by
 have Hv := hide h
 have Hu := hide k
 obtain ⟨a0, p0, rfl, _, _⟩ := IsRooms.shape h.rooms
 obtain ⟨a1, p1, rfl, hc1, hm1⟩ := IsRec.shape h.guilds
 obtain ⟨a2, p2, rfl, hc2, hm2⟩ := IsRec.shape h.smiths
 obtain ⟨a3, p3, rfl, hc3, hm3⟩ := IsRec.shape h.desks
 obtain ⟨a4, p4, rfl, hc4, hm4⟩ := IsRec.shape h.paces
 obtain ⟨b0, q0, b1, q1, b2, q2, b3, q3, b4, q4, rfl, rfl, rfl, rfl, rfl, _, _, _, _, _, _, _, _, _, _⟩ := k.five
 clear h k
 go_enter func43, ntmps43
 go_wp2_with fail
 have BB : Hid (Below w.heap.size w ((w.alloc (.cells (S6 a0 p0 a1 p1 a2 p2 a3 p3 a4 p4 m) 32)).alloc (.cells (S6 b0 q0 b1 q1 b2 q2 b3 q3 b4 q4 m) 32))) := hide (((ba _ _)).alloc (by simp) _)
 have ka : Hid (Blk ((w.alloc (.cells (S6 a0 p0 a1 p1 a2 p2 a3 p3 a4 p4 m) 32)).alloc (.cells (S6 b0 q0 b1 q1 b2 q2 b3 q3 b4 q4 m) 32)) w.heap.size 32 (S6 a0 p0 a1 p1 a2 p2 a3 p3 a4 p4 m)) := hide ((Blk.new w _ _).alloc _)
 have kb : Hid (Blk ((w.alloc (.cells (S6 a0 p0 a1 p1 a2 p2 a3 p3 a4 p4 m) 32)).alloc (.cells (S6 b0 q0 b1 q1 b2 q2 b3 q3 b4 q4 m) 32)) (w.heap.size + 1) 32 (S6 b0 q0 b1 q1 b2 q2 b3 q3 b4 q4 m)) := hide (by
  have k := Blk.new (w.alloc (.cells (S6 a0 p0 a1 p1 a2 p2 a3 p3 a4 p4 m) 32)) 32 (S6 b0 q0 b1 q1 b2 q2 b3 q3 b4 q4 m)
  rw [alWsa] at k
  exact k)
 generalize (w.alloc (.cells (S6 a0 p0 a1 p1 a2 p2 a3 p3 a4 p4 m) 32)).alloc (.cells (S6 b0 q0 b1 q1 b2 q2 b3 q3 b4 q4 m) 32) = W at *
 refine ck (eqHall_yes ((uh Hv).below (uh BB)).rooms ((uh Hu).below (uh BB)).rooms) fun w1 hb => ?_
 replace ka := bl ka hb
 replace kb := bl kb hb
 replace BB := bt BB hb
 clear hb
 have c1 := (uh ka).cell (i := 1) (v := .slice a1 m.guilds.length p1) rfl
 have d1 := (uh kb).cell (i := 1) (v := .slice b1 m.guilds.length q1) rfl
 go_wp2_with fail
 clear c1 d1
 refine ck (eqGuildS_yes ((uh Hv).below (uh BB)).guilds ((uh Hu).below (uh BB)).guilds) fun w2 hb => ?_
 replace ka := bl ka hb
 replace kb := bl kb hb
 replace BB := bt BB hb
 clear hb
 have c2 := (uh ka).cell (i := 2) (v := .slice a2 m.smiths.length p2) rfl
 have d2 := (uh kb).cell (i := 2) (v := .slice b2 m.smiths.length q2) rfl
 go_wp2_with fail
 clear c2 d2
 refine ck (eqSmithS_yes ((uh Hv).below (uh BB)).smiths ((uh Hu).below (uh BB)).smiths) fun w3 hb => ?_
 replace ka := bl ka hb
 replace kb := bl kb hb
 replace BB := bt BB hb
 clear hb
 have c3 := (uh ka).cell (i := 3) (v := .slice a3 m.desks.length p3) rfl
 have d3 := (uh kb).cell (i := 3) (v := .slice b3 m.desks.length q3) rfl
 go_wp2_with fail
 clear c3 d3
 refine ck (eqDeskS_yes ((uh Hv).below (uh BB)).desks ((uh Hu).below (uh BB)).desks) fun w4 hb => ?_
 replace ka := bl ka hb
 replace kb := bl kb hb
 replace BB := bt BB hb
 clear hb
 have c4 := (uh ka).cell (i := 4) (v := .slice a4 m.paces.length p4) rfl
 have d4 := (uh kb).cell (i := 4) (v := .slice b4 m.paces.length q4) rfl
 go_wp2_with fail
 clear c4 d4
 refine ck (eqNums_yes ((uh Hv).below (uh BB)).paces ((uh Hu).below (uh BB)).paces) fun w5 hb => ?_
 replace ka := bl ka hb
 replace kb := bl kb hb
 replace BB := bt BB hb
 clear hb
 have c5 := (uh ka).cell (i := 5) (v := .int .i64 m.now) rfl
 have d5 := (uh kb).cell (i := 5) (v := .int .i64 m.now) rfl
 go_wp2_with fail
 go_ret
 exact ⟨rfl, uh BB⟩
end Go.Proofs.YtgdpaigcmoifbaaGreat
