/- What the proof rests on, part 8: lists and numbers, how they lie in memory, and contracts of the calls. No condition but those that a theorem names. -/
import Derived.Test.YtifolooecfebfaaGreatXe01
import Derived.Test.YtifolooecfebfaaGreatXe03
import Derived.Test.YtifolooecfebfaaGreatXe05
import Derived.Test.YtifolooecfebfaaGreatXe06
import GoSem.Claim
import GoSem.ClaimJoined
import GoSem.ClaimMapViews
import Derived.JoinedTies
import Derived.KernelRfl
import Derived.RowKit
import Derived.WalkKit
import Derived.ProofKit
import Derived.OpenShut
import Derived.Outline
import Derived.Lib.QuietBelow
import Derived.Deep.RegionWith
import Derived.Deep.QuietTactic
import Derived.BigQuiet
import Derived.Laws.OwnMore
import Derived.OwnWalk
import Derived.Maps.AppendAt
import Derived.Lib.SmallJoins
import Derived.Deep.Fields
import Derived.Deep.Slices
/- A smithy in memory: what it reads as, and one that the call itself made. No condition but those that a theorem names. -/
namespace Go.Proofs.YtifolooecfebfaaGreat
open Go.ChangeShapes Go.WideShapes Go.ChangeAt Go.RowKit Go.Sort
set_option linter.unusedVariables false

structure SmyV where
  rooms : List RoomV
  guilds : List GuildV
  smiths : List SmithV
  desks : List DeskV
  paces : List Int
  now : Int

/-- The five slices read as the smithy's lists. -/
structure Smy (w : World) (v0 v1 v2 v3 v4 : Value) (m : SmyV) : Prop where
  rooms : IsRooms w v0 m.rooms
  guilds : IsGuilds w v1 m.guilds
  smiths : IsSmiths w v2 m.smiths
  desks : IsDesks w v3 m.desks
  paces : IsNums w v4 m.paces
theorem Smy.below {w w' : World} {v0 v1 v2 v3 v4 : Value} {m : SmyV} (h : Smy w v0 v1 v2 v3 v4 m) (hb : Below w.heap.size w w') : Smy w' v0 v1 v2 v3 v4 m :=
  ⟨h.rooms.below hb, h.guilds.below hb, h.smiths.below hb, h.desks.below hb, h.paces.below hb⟩
theorem Smy.alloc {w : World} {v0 v1 v2 v3 v4 : Value} {m : SmyV} (h : Smy w v0 v1 v2 v3 v4 m) (o : Obj) : Smy (w.alloc o) v0 v1 v2 v3 v4 m := h.below ((Below.refl _ _).alloc (Nat.le_refl _) _)

/-- Nothing in it is longer than 2^20. -/
structure SmySmall (m : SmyV) : Prop where
  rooms : Small m.rooms
  guilds : m.guilds.length ≤ 1048576
  smiths : m.smiths.length ≤ 1048576
  desks : m.desks.length ≤ 1048576
  paces : m.paces.length ≤ 1048576

theorem RoomsFrom.below {n₀ : Nat} {w w' : World} {v : Value} {rs : List RoomV} (h : RoomsFrom n₀ w v rs) (hb : Below w.heap.size w w') : RoomsFrom n₀ w' v rs := by
  obtain ⟨a, cap, hv, hc, hm, hr⟩ := h
  refine ⟨a, cap, hv, hc, hm, ?_⟩
  rcases hr with hr | ⟨b, off, ha, h0, hlt, hcl⟩
  · exact .inl hr
  · have hs := hb.size
    refine .inr ⟨b, off, ha, h0, by omega, fun k hk => ?_⟩
    obtain ⟨c0, pv, c1, hp, hj⟩ := hcl k hk
    exact ⟨(hb.cell (p := ⟨b, off + k * 2, none⟩) hlt).trans c0, pv, (hb.cell (p := ⟨b, off + k * 2 + 1, none⟩) hlt).trans c1, hp.below hb, hj⟩
theorem RoomsFrom.mono {n₀ n₁ : Nat} {w : World} {v : Value} {rs : List RoomV} (h : RoomsFrom n₀ w v rs) (hn : n₁ ≤ n₀) : RoomsFrom n₁ w v rs := by
  obtain ⟨a, cap, hv, hc, hm, hr⟩ := h
  refine ⟨a, cap, hv, hc, hm, ?_⟩
  rcases hr with hr | ⟨b, off, ha, h0, hlt, hcl⟩
  · exact .inl hr
  · refine .inr ⟨b, off, ha, by omega, hlt, fun k hk => ?_⟩
    obtain ⟨c0, pv, c1, hp, hj⟩ := hcl k hk
    exact ⟨c0, pv, c1, hp, fun j e => by have := hj j e; omega⟩
theorem RecAt.set_old {α : Type} {t k : Nat} {enc : α → List Value} {n₀ : Nat} {w : World} {v : Value} {xs : List α} (h : RecAt t k enc n₀ w v xs) (g o : Nat) (u : Value) (hg : g < n₀) : RecAt t k enc n₀ (w.setCell ⟨g, o, none⟩ u) v xs :=
  h.same fun i hi => heap_setCell_other w _ i u (by have := (h.lt hi).1; show i ≠ g; omega)

/-- A smithy in memory that the call made: all of it lies in blocks from n₀ on. -/
structure OwnSmy (n₀ : Nat) (w : World) (v0 v1 v2 v3 v4 : Value) (m : SmyV) : Prop where
  rooms : RoomsFrom n₀ w v0 m.rooms
  guilds : GuildsAt n₀ w v1 m.guilds
  smiths : SmithsAt n₀ w v2 m.smiths
  desks : DesksAt n₀ w v3 m.desks
  paces : NumsAt n₀ w v4 m.paces
theorem OwnSmy.smy {n₀ : Nat} {w : World} {v0 v1 v2 v3 v4 : Value} {m : SmyV} (h : OwnSmy n₀ w v0 v1 v2 v3 v4 m) : Smy w v0 v1 v2 v3 v4 m := ⟨h.rooms.rooms, h.guilds.list, h.smiths.list, h.desks.list, h.paces.list⟩
theorem OwnSmy.mono {n₀ n₁ : Nat} {w : World} {v0 v1 v2 v3 v4 : Value} {m : SmyV} (h : OwnSmy n₀ w v0 v1 v2 v3 v4 m) (hn : n₁ ≤ n₀) : OwnSmy n₁ w v0 v1 v2 v3 v4 m :=
  ⟨h.rooms.mono hn, RecAt.mono h.guilds hn, RecAt.mono h.smiths hn, RecAt.mono h.desks hn, RecAt.mono h.paces hn⟩
theorem OwnSmy.set {n₀ : Nat} {w : World} {v0 v1 v2 v3 v4 : Value} {m : SmyV} (h : OwnSmy n₀ w v0 v1 v2 v3 v4 m) (g o : Nat) (u : Value) (hg : g < n₀) : OwnSmy n₀ (w.setCell ⟨g, o, none⟩ u) v0 v1 v2 v3 v4 m :=
  ⟨h.rooms.set g o u hg, RecAt.set_old h.guilds g o u hg, RecAt.set_old h.smiths g o u hg, RecAt.set_old h.desks g o u hg, RecAt.set_old h.paces g o u hg⟩

theorem Smy.five {w : World} {v0 v1 v2 v3 v4 : Value} {m : SmyV} (h : Smy w v0 v1 v2 v3 v4 m) : ∃ a0 p0 a1 p1 a2 p2 a3 p3 a4 p4, v0 = .slice a0 m.rooms.length p0 ∧ v1 = .slice a1 m.guilds.length p1 ∧ v2 = .slice a2 m.smiths.length p2 ∧ v3 = .slice a3 m.desks.length p3 ∧ v4 = .slice a4 m.paces.length p4 ∧ m.rooms.length ≤ p0 ∧ p0 ≤ 9223372036854775807 ∧ m.guilds.length ≤ p1 ∧ p1 ≤ 9223372036854775807 ∧ m.smiths.length ≤ p2 ∧ p2 ≤ 9223372036854775807 ∧ m.desks.length ≤ p3 ∧ p3 ≤ 9223372036854775807 ∧ m.paces.length ≤ p4 ∧ p4 ≤ 9223372036854775807 := by
  obtain ⟨a0, p0, e0, x0, y0, _⟩ := h.rooms
  obtain ⟨a1, p1, e1, x1, y1, _⟩ := h.guilds
  obtain ⟨a2, p2, e2, x2, y2, _⟩ := h.smiths
  obtain ⟨a3, p3, e3, x3, y3, _⟩ := h.desks
  obtain ⟨a4, p4, e4, x4, y4, _⟩ := h.paces
  exact ⟨a0, p0, a1, p1, a2, p2, a3, p3, a4, p4, e0, e1, e2, e3, e4, x0, y0, x1, y1, x2, y2, x3, y3, x4, y4⟩

end Go.Proofs.YtifolooecfebfaaGreat

/- Contracts of the laws' own helpers over smithies: how big one is, its copy in memory of its own, that two that read alike are alike. Conditions: the slices can be read; what is copied is no longer than 2^20. -/
namespace Go.Proofs.YtifolooecfebfaaGreat
open Go.ChangeShapes Go.WideShapes Go.ChangeAt Go.RowKit Go.Sort
set_option linter.unusedVariables false

set_option maxHeartbeats 1000000 in
theorem szHall_le {w : World} {v : Value} {rs : List RoomV} (h : IsRooms w v rs) (left : Int) (h0 : 0 ≤ left) (h1 : left ≤ 1048576) :
    Calls Tryz.prog 61 #[.agg #[v], .int .i64 left] w fun e w' => ∃ x : Int, e = .returned (.int .i64 x) ∧ x ≤ 1048576 ∧ (0 ≤ x → Small rs) ∧ Below w.heap.size w w' := by
  have Hv := hide h
  obtain ⟨a, cap, rfl, hc, hm, hr⟩ := h
  clear hr
  go_enter Tryz.func61, Tryz.ntmps61
  go_wp2_with fail
  refine (szRoomS_any ((unhide Hv).alloc _) left h0 h1).mono ?_
  rintro e w1 ⟨x, rfl, x1, hx, hb⟩
  have Hx := hide hx
  have Hb := hide hb
  clear hx hb
  by_cases hx0 : x < 0
  · go_wp2_with fail
    go_ret
    exact ⟨-1, rfl, by omega, fun h => by omega, ((Below.refl _ _).alloc (Nat.le_refl _) _).trans ((unhide Hb).mono (by simp))⟩
  · go_wp2_with fail
    go_ret
    exact ⟨x, rfl, x1, unhide Hx, ((Below.refl _ _).alloc (Nat.le_refl _) _).trans ((unhide Hb).mono (by simp))⟩
set_option maxHeartbeats 2000000 in
theorem szSmithy_any {w : World} {v0 v1 v2 v3 v4 : Value} {m : SmyV} (h : Smy w v0 v1 v2 v3 v4 m) :
    Calls Tryz.prog 28 #[.agg #[v0, v1, v2, v3, v4, .int .i64 m.now], .int .i64 1048576] w fun e w' => ∃ x : Int, e = .returned (.int .i64 x) ∧ (0 ≤ x → SmySmall m) ∧ Below w.heap.size w w' := by
  have Hv := hide h
  obtain ⟨a0, p0, rfl, _, _⟩ := IsRooms.shape h.rooms
  obtain ⟨a1, p1, rfl, hc1, hm1⟩ := IsRec.shape h.guilds
  obtain ⟨a2, p2, rfl, hc2, hm2⟩ := IsRec.shape h.smiths
  obtain ⟨a3, p3, rfl, hc3, hm3⟩ := IsRec.shape h.desks
  obtain ⟨a4, p4, rfl, hc4, hm4⟩ := IsRec.shape h.paces
  clear h
  go_enter Tryz.func28, Tryz.ntmps28
  go_wp2_with fail
  refine (szHall_le ((unhide Hv).alloc _).rooms _ (by omega) (by omega)).mono ?_
  rintro e w1 ⟨x, rfl, x1, hx, hb⟩
  have kb : Hid (Blk w1 w.heap.size 56 #[.slice a0 m.rooms.length p0, .slice a1 m.guilds.length p1, .slice a2 m.smiths.length p2, .slice a3 m.desks.length p3, .slice a4 m.paces.length p4, .int .i64 m.now]) := hide ((Blk.new w _ _).below hb (by simp))
  have BB : Hid (Below w.heap.size w w1) := hide (((Below.refl _ _).alloc (Nat.le_refl _) _).trans (hb.mono (by simp)))
  have Hx := hide hx
  clear hx hb
  have c1 := (unhide kb).cell (i := 1) (v := .slice a1 m.guilds.length p1) rfl
  have c2 := (unhide kb).cell (i := 2) (v := .slice a2 m.smiths.length p2) rfl
  have c3 := (unhide kb).cell (i := 3) (v := .slice a3 m.desks.length p3) rfl
  have c4 := (unhide kb).cell (i := 4) (v := .slice a4 m.paces.length p4) rfl
  by_cases hx0 : x < 0
  · go_wp2_with fail
    go_ret
    exact ⟨-1, rfl, fun h => by omega, unhide BB⟩
  go_wp2_with fail
  refine (szGuildS_any _ _ _ _ (by omega) (by omega) (by omega) _).mono ?_
  by_cases g0 : x - (m.guilds.length : Int) < 0
  · rw [szV_f g0]
    rintro e w' ⟨rfl, h9⟩
    subst w'
    go_wp2_with fail
    go_ret
    exact ⟨-1, rfl, fun h => by omega, unhide BB⟩
  rw [szV_t g0]
  rintro e w' ⟨rfl, h9⟩
  subst w'
  go_wp2_with fail
  refine (szSmithS_any _ _ _ _ (by omega) (by omega) (by omega) _).mono ?_
  by_cases g1 : x - (m.guilds.length : Int) - (m.smiths.length : Int) < 0
  · rw [szV_f g1]
    rintro e w' ⟨rfl, h9⟩
    subst w'
    go_wp2_with fail
    go_ret
    exact ⟨-1, rfl, fun h => by omega, unhide BB⟩
  rw [szV_t g1]
  rintro e w' ⟨rfl, h9⟩
  subst w'
  go_wp2_with fail
  refine (szDeskS_any _ _ _ _ (by omega) (by omega) (by omega) _).mono ?_
  by_cases g2 : x - (m.guilds.length : Int) - (m.smiths.length : Int) - (m.desks.length : Int) < 0
  · rw [szV_f g2]
    rintro e w' ⟨rfl, h9⟩
    subst w'
    go_wp2_with fail
    go_ret
    exact ⟨-1, rfl, fun h => by omega, unhide BB⟩
  rw [szV_t g2]
  rintro e w' ⟨rfl, h9⟩
  subst w'
  go_wp2_with fail
  refine (szInt64S_any _ _ _ _ (by omega) (by omega) (by omega) _).mono ?_
  by_cases g3 : x - (m.guilds.length : Int) - (m.smiths.length : Int) - (m.desks.length : Int) - (m.paces.length : Int) < 0
  · rw [szV_f g3]
    rintro e w' ⟨rfl, h9⟩
    subst w'
    go_wp2_with fail
    go_ret
    exact ⟨-1, rfl, fun h => by omega, unhide BB⟩
  rw [szV_t g3]
  rintro e w' ⟨rfl, h9⟩
  subst w'
  go_wp2_with fail
  go_ret
  exact ⟨_, rfl, fun _ => ⟨unhide Hx (by omega), by omega, by omega, by omega, by omega⟩, unhide BB⟩

set_option maxHeartbeats 2000000 in
theorem toHall_own {w : World} {v : Value} {rs : List RoomV} (h : IsRooms w v rs) (hs : Small rs) :
    Calls Tryz.prog 66 #[.agg #[v]] w fun e w' => ∃ v', e = .returned (.agg #[v']) ∧ RoomsFrom w.heap.size w' v' rs ∧ Below w.heap.size w w' := by
  have Hv := hide h
  obtain ⟨a, cap, rfl, hc, hm, hr⟩ := h
  clear hr
  have Hb0 : Hid (∀ o1 o2 o3 : Obj, Below w.heap.size w (((w.alloc o1).alloc o2).alloc o3)) := hide (fun o1 o2 o3 => (((Below.refl _ _).alloc (Nat.le_refl _) _).alloc (by simp) _).alloc (by simp; omega) _)
  go_enter Tryz.func66, Tryz.ntmps66
  go_wp2_with fail
  refine (toRoomS_any ((unhide Hv).below (unhide Hb0 _ _ _)) hs).mono ?_
  rintro e w1 ⟨v', rfl, hp, hb1⟩
  simp only [World.size_alloc] at hp
  have hsz : w.heap.size + 3 ≤ w1.heap.size := by have := hb1.size; simp at this; omega
  obtain ⟨cc, ff⟩ := bcell hb1
  have x0 := cc (w.heap.size + 2) 0 (by simp)
  have y0 := cc (w.heap.size + 1) 0 (by simp)
  have fx0 := ff (w.heap.size + 2) 0 (by simp)
  have fy0 := ff (w.heap.size + 1) 0 (by simp)
  have Hp := hide hp
  have Hb1 := hide hb1
  obtain ⟨a', cap', rfl, _⟩ := hp
  clear cc ff hb1
  go_wp2_with fail
  have B1 : Below w.heap.size w w1 := (unhide Hb0 _ _ _).trans ((unhide Hb1).mono (by simp; omega))
  refine bodyPost_ret (v := .agg #[.slice a' rs.length cap']) (by simp [results, Tryz.results66, go_sem, *]) rfl ⟨_, rfl, ?_, ?_⟩
  · exact (((unhide Hp).set _ _ _ (by omega)).set _ _ _ (by omega)).mono (by omega)
  · exact (B1.setCell (by show _ ≤ w.heap.size + 1 + 1; omega) _).setCell (by show _ ≤ w.heap.size + 1; omega) _

set_option maxRecDepth 100000 in
set_option maxHeartbeats 4000000 in
theorem toSmithy_any {w : World} {v0 v1 v2 v3 v4 : Value} {m : SmyV} (h : Smy w v0 v1 v2 v3 v4 m) (hs : SmySmall m) :
    Calls Tryz.prog 29 #[.agg #[v0, v1, v2, v3, v4, .int .i64 m.now]] w fun e w' => ∃ u0 u1 u2 u3 u4, e = .returned (.agg #[u0, u1, u2, u3, u4, .int .i64 m.now]) ∧ OwnSmy w.heap.size w' u0 u1 u2 u3 u4 m ∧ Below w.heap.size w w' := by
  have Hv := hide h
  have Hs := hide hs
  obtain ⟨a0, p0, rfl, _, _⟩ := IsRooms.shape h.rooms
  obtain ⟨a1, p1, rfl, hc1, hm1⟩ := IsRec.shape h.guilds
  obtain ⟨a2, p2, rfl, hc2, hm2⟩ := IsRec.shape h.smiths
  obtain ⟨a3, p3, rfl, hc3, hm3⟩ := IsRec.shape h.desks
  obtain ⟨a4, p4, rfl, hc4, hm4⟩ := IsRec.shape h.paces
  clear h hs
  go_enter Tryz.func29, Tryz.ntmps29
  go_wp2_with fail
  have BB : Hid (Below w.heap.size w (((w.alloc (.cells #[.slice a0 m.rooms.length p0, .slice a1 m.guilds.length p1, .slice a2 m.smiths.length p2, .slice a3 m.desks.length p3, .slice a4 m.paces.length p4, .int .i64 m.now] 56)).alloc (.cells #[.slice none 0 0, .slice none 0 0, .slice none 0 0, .slice none 0 0, .slice none 0 0, .int .i64 0] 32)).alloc (.cells #[.slice none 0 0, .slice none 0 0, .slice none 0 0, .slice none 0 0, .slice none 0 0, .int .i64 0] 32))) := hide ((((Below.refl _ _).alloc (Nat.le_refl _) _).alloc (by simp) _).alloc (by simp; omega) _)
  have ka : Hid (Blk (((w.alloc (.cells #[.slice a0 m.rooms.length p0, .slice a1 m.guilds.length p1, .slice a2 m.smiths.length p2, .slice a3 m.desks.length p3, .slice a4 m.paces.length p4, .int .i64 m.now] 56)).alloc (.cells #[.slice none 0 0, .slice none 0 0, .slice none 0 0, .slice none 0 0, .slice none 0 0, .int .i64 0] 32)).alloc (.cells #[.slice none 0 0, .slice none 0 0, .slice none 0 0, .slice none 0 0, .slice none 0 0, .int .i64 0] 32)) w.heap.size 56 #[.slice a0 m.rooms.length p0, .slice a1 m.guilds.length p1, .slice a2 m.smiths.length p2, .slice a3 m.desks.length p3, .slice a4 m.paces.length p4, .int .i64 m.now]) := hide (((Blk.new w _ _).alloc _).alloc _)
  have kr : Hid (Blk (((w.alloc (.cells #[.slice a0 m.rooms.length p0, .slice a1 m.guilds.length p1, .slice a2 m.smiths.length p2, .slice a3 m.desks.length p3, .slice a4 m.paces.length p4, .int .i64 m.now] 56)).alloc (.cells #[.slice none 0 0, .slice none 0 0, .slice none 0 0, .slice none 0 0, .slice none 0 0, .int .i64 0] 32)).alloc (.cells #[.slice none 0 0, .slice none 0 0, .slice none 0 0, .slice none 0 0, .slice none 0 0, .int .i64 0] 32)) (w.heap.size + 1) 32 #[.slice none 0 0, .slice none 0 0, .slice none 0 0, .slice none 0 0, .slice none 0 0, .int .i64 0]) := hide (by
    have k := Blk.new (w.alloc (.cells #[.slice a0 m.rooms.length p0, .slice a1 m.guilds.length p1, .slice a2 m.smiths.length p2, .slice a3 m.desks.length p3, .slice a4 m.paces.length p4, .int .i64 m.now] 56)) 32 #[.slice none 0 0, .slice none 0 0, .slice none 0 0, .slice none 0 0, .slice none 0 0, .int .i64 0]
    rw [World.size_alloc] at k
    exact k.alloc _)
  have ko : Hid (Blk (((w.alloc (.cells #[.slice a0 m.rooms.length p0, .slice a1 m.guilds.length p1, .slice a2 m.smiths.length p2, .slice a3 m.desks.length p3, .slice a4 m.paces.length p4, .int .i64 m.now] 56)).alloc (.cells #[.slice none 0 0, .slice none 0 0, .slice none 0 0, .slice none 0 0, .slice none 0 0, .int .i64 0] 32)).alloc (.cells #[.slice none 0 0, .slice none 0 0, .slice none 0 0, .slice none 0 0, .slice none 0 0, .int .i64 0] 32)) (w.heap.size + 1 + 1) 32 #[.slice none 0 0, .slice none 0 0, .slice none 0 0, .slice none 0 0, .slice none 0 0, .int .i64 0]) := hide (by
    have k := Blk.new ((w.alloc (.cells #[.slice a0 m.rooms.length p0, .slice a1 m.guilds.length p1, .slice a2 m.smiths.length p2, .slice a3 m.desks.length p3, .slice a4 m.paces.length p4, .int .i64 m.now] 56)).alloc (.cells #[.slice none 0 0, .slice none 0 0, .slice none 0 0, .slice none 0 0, .slice none 0 0, .int .i64 0] 32)) 32 #[.slice none 0 0, .slice none 0 0, .slice none 0 0, .slice none 0 0, .slice none 0 0, .int .i64 0]
    rw [World.size_alloc, World.size_alloc] at k
    exact k)
  generalize ((w.alloc (.cells #[.slice a0 m.rooms.length p0, .slice a1 m.guilds.length p1, .slice a2 m.smiths.length p2, .slice a3 m.desks.length p3, .slice a4 m.paces.length p4, .int .i64 m.now] 56)).alloc (.cells #[.slice none 0 0, .slice none 0 0, .slice none 0 0, .slice none 0 0, .slice none 0 0, .int .i64 0] 32)).alloc (.cells #[.slice none 0 0, .slice none 0 0, .slice none 0 0, .slice none 0 0, .slice none 0 0, .int .i64 0] 32) = W at *
  have hW : w.heap.size + 3 ≤ W.heap.size := by have := (unhide ko).lt; omega
  refine (toHall_own ((unhide Hv).below (unhide BB)).rooms (unhide Hs).rooms).mono ?_
  rintro e w1 ⟨u0, rfl, hp, hb⟩
  have n0 : Hid (RoomsFrom (w.heap.size + 3) w1 u0 m.rooms) := hide (hp.mono hW)
  replace ka := hide ((unhide ka).below hb (unhide ka).lt)
  replace kr := hide ((unhide kr).below hb (unhide kr).lt)
  replace ko := hide ((unhide ko).below hb (unhide ko).lt)
  replace BB := hide ((unhide BB).trans (hb.mono (unhide BB).size))
  have hW2 : w.heap.size + 3 ≤ w1.heap.size := by have := hb.size; omega
  obtain ⟨b0, q0, rfl, _⟩ := hp
  clear hb
  have o0 := (unhide ko).cell (i := 0) (v := .slice none 0 0) rfl
  have f0 := (unhide ko).free 0
  have c1 := (unhide ka).cell (i := 1) (v := .slice a1 m.guilds.length p1) rfl
  go_wp2_with fail
  replace ka : Hid (Blk (w1.setCell ⟨w.heap.size + 1 + 1, 0, none⟩ (.slice b0 m.rooms.length q0)) w.heap.size 56 #[.slice a0 m.rooms.length p0, .slice a1 m.guilds.length p1, .slice a2 m.smiths.length p2, .slice a3 m.desks.length p3, .slice a4 m.paces.length p4, .int .i64 m.now]) := hide ((unhide ka).other (a := ⟨w.heap.size + 1 + 1, 0, none⟩) (by show w.heap.size ≠ w.heap.size + 1 + 1; omega) _)
  replace kr : Hid (Blk (w1.setCell ⟨w.heap.size + 1 + 1, 0, none⟩ (.slice b0 m.rooms.length q0)) (w.heap.size + 1) 32 #[.slice none 0 0, .slice none 0 0, .slice none 0 0, .slice none 0 0, .slice none 0 0, .int .i64 0]) := hide ((unhide kr).other (a := ⟨w.heap.size + 1 + 1, 0, none⟩) (by show w.heap.size + 1 ≠ w.heap.size + 1 + 1; omega) _)
  replace ko : Hid (Blk (w1.setCell ⟨w.heap.size + 1 + 1, 0, none⟩ (.slice b0 m.rooms.length q0)) (w.heap.size + 1 + 1) 32 #[.slice b0 m.rooms.length q0, .slice none 0 0, .slice none 0 0, .slice none 0 0, .slice none 0 0, .int .i64 0]) := hide ((unhide ko).set 0 _)
  replace n0 := hide ((unhide n0).set (w.heap.size + 1 + 1) 0 (.slice b0 m.rooms.length q0) (by omega))
  replace BB : Hid (Below w.heap.size w (w1.setCell ⟨w.heap.size + 1 + 1, 0, none⟩ (.slice b0 m.rooms.length q0))) := hide ((unhide BB).setCell (p := ⟨w.heap.size + 1 + 1, 0, none⟩) (by show w.heap.size ≤ w.heap.size + 1 + 1; omega) _)
  have hW3 : w.heap.size + 3 ≤ (w1.setCell ⟨w.heap.size + 1 + 1, 0, none⟩ (.slice b0 m.rooms.length q0)).heap.size := by have := (unhide ko).lt; omega
  clear o0 f0 c1 hW hW2
  generalize (w1.setCell ⟨w.heap.size + 1 + 1, 0, none⟩ (.slice b0 m.rooms.length q0)) = W at *
  have hW := hW3
  clear hW3
  refine (toGuildS_any ((unhide Hv).below (unhide BB)).guilds (unhide Hs).guilds).mono ?_
  rintro e w2 ⟨u1, rfl, hp, hb⟩
  have n1 : Hid (GuildsAt (w.heap.size + 3) w2 u1 m.guilds) := hide (RecAt.mono hp hW)
  replace n0 := hide ((unhide n0).below hb)
  replace ka := hide ((unhide ka).below hb (unhide ka).lt)
  replace kr := hide ((unhide kr).below hb (unhide kr).lt)
  replace ko := hide ((unhide ko).below hb (unhide ko).lt)
  replace BB := hide ((unhide BB).trans (hb.mono (unhide BB).size))
  have hW2 : w.heap.size + 3 ≤ w2.heap.size := by have := hb.size; omega
  obtain ⟨b1, q1, rfl⟩ := RecAt.shape hp
  clear hp hb
  have o1 := (unhide ko).cell (i := 1) (v := .slice none 0 0) rfl
  have f1 := (unhide ko).free 1
  have c2 := (unhide ka).cell (i := 2) (v := .slice a2 m.smiths.length p2) rfl
  go_wp2_with fail
  replace ka : Hid (Blk (w2.setCell ⟨w.heap.size + 1 + 1, 1, none⟩ (.slice b1 m.guilds.length q1)) w.heap.size 56 #[.slice a0 m.rooms.length p0, .slice a1 m.guilds.length p1, .slice a2 m.smiths.length p2, .slice a3 m.desks.length p3, .slice a4 m.paces.length p4, .int .i64 m.now]) := hide ((unhide ka).other (a := ⟨w.heap.size + 1 + 1, 1, none⟩) (by show w.heap.size ≠ w.heap.size + 1 + 1; omega) _)
  replace kr : Hid (Blk (w2.setCell ⟨w.heap.size + 1 + 1, 1, none⟩ (.slice b1 m.guilds.length q1)) (w.heap.size + 1) 32 #[.slice none 0 0, .slice none 0 0, .slice none 0 0, .slice none 0 0, .slice none 0 0, .int .i64 0]) := hide ((unhide kr).other (a := ⟨w.heap.size + 1 + 1, 1, none⟩) (by show w.heap.size + 1 ≠ w.heap.size + 1 + 1; omega) _)
  replace ko : Hid (Blk (w2.setCell ⟨w.heap.size + 1 + 1, 1, none⟩ (.slice b1 m.guilds.length q1)) (w.heap.size + 1 + 1) 32 #[.slice b0 m.rooms.length q0, .slice b1 m.guilds.length q1, .slice none 0 0, .slice none 0 0, .slice none 0 0, .int .i64 0]) := hide ((unhide ko).set 1 _)
  replace n0 := hide ((unhide n0).set (w.heap.size + 1 + 1) 1 (.slice b1 m.guilds.length q1) (by omega))
  replace n1 := hide (RecAt.set_old (unhide n1) (w.heap.size + 1 + 1) 1 (.slice b1 m.guilds.length q1) (by omega))
  replace BB : Hid (Below w.heap.size w (w2.setCell ⟨w.heap.size + 1 + 1, 1, none⟩ (.slice b1 m.guilds.length q1))) := hide ((unhide BB).setCell (p := ⟨w.heap.size + 1 + 1, 1, none⟩) (by show w.heap.size ≤ w.heap.size + 1 + 1; omega) _)
  have hW3 : w.heap.size + 3 ≤ (w2.setCell ⟨w.heap.size + 1 + 1, 1, none⟩ (.slice b1 m.guilds.length q1)).heap.size := by have := (unhide ko).lt; omega
  clear o1 f1 c2 hW hW2
  generalize (w2.setCell ⟨w.heap.size + 1 + 1, 1, none⟩ (.slice b1 m.guilds.length q1)) = W at *
  have hW := hW3
  clear hW3
  refine (toSmithS_any ((unhide Hv).below (unhide BB)).smiths (unhide Hs).smiths).mono ?_
  rintro e w3 ⟨u2, rfl, hp, hb⟩
  have n2 : Hid (SmithsAt (w.heap.size + 3) w3 u2 m.smiths) := hide (RecAt.mono hp hW)
  replace n0 := hide ((unhide n0).below hb)
  replace n1 := hide (RecAt.later (unhide n1) hb)
  replace ka := hide ((unhide ka).below hb (unhide ka).lt)
  replace kr := hide ((unhide kr).below hb (unhide kr).lt)
  replace ko := hide ((unhide ko).below hb (unhide ko).lt)
  replace BB := hide ((unhide BB).trans (hb.mono (unhide BB).size))
  have hW2 : w.heap.size + 3 ≤ w3.heap.size := by have := hb.size; omega
  obtain ⟨b2, q2, rfl⟩ := RecAt.shape hp
  clear hp hb
  have o2 := (unhide ko).cell (i := 2) (v := .slice none 0 0) rfl
  have f2 := (unhide ko).free 2
  have c3 := (unhide ka).cell (i := 3) (v := .slice a3 m.desks.length p3) rfl
  go_wp2_with fail
  replace ka : Hid (Blk (w3.setCell ⟨w.heap.size + 1 + 1, 2, none⟩ (.slice b2 m.smiths.length q2)) w.heap.size 56 #[.slice a0 m.rooms.length p0, .slice a1 m.guilds.length p1, .slice a2 m.smiths.length p2, .slice a3 m.desks.length p3, .slice a4 m.paces.length p4, .int .i64 m.now]) := hide ((unhide ka).other (a := ⟨w.heap.size + 1 + 1, 2, none⟩) (by show w.heap.size ≠ w.heap.size + 1 + 1; omega) _)
  replace kr : Hid (Blk (w3.setCell ⟨w.heap.size + 1 + 1, 2, none⟩ (.slice b2 m.smiths.length q2)) (w.heap.size + 1) 32 #[.slice none 0 0, .slice none 0 0, .slice none 0 0, .slice none 0 0, .slice none 0 0, .int .i64 0]) := hide ((unhide kr).other (a := ⟨w.heap.size + 1 + 1, 2, none⟩) (by show w.heap.size + 1 ≠ w.heap.size + 1 + 1; omega) _)
  replace ko : Hid (Blk (w3.setCell ⟨w.heap.size + 1 + 1, 2, none⟩ (.slice b2 m.smiths.length q2)) (w.heap.size + 1 + 1) 32 #[.slice b0 m.rooms.length q0, .slice b1 m.guilds.length q1, .slice b2 m.smiths.length q2, .slice none 0 0, .slice none 0 0, .int .i64 0]) := hide ((unhide ko).set 2 _)
  replace n0 := hide ((unhide n0).set (w.heap.size + 1 + 1) 2 (.slice b2 m.smiths.length q2) (by omega))
  replace n1 := hide (RecAt.set_old (unhide n1) (w.heap.size + 1 + 1) 2 (.slice b2 m.smiths.length q2) (by omega))
  replace n2 := hide (RecAt.set_old (unhide n2) (w.heap.size + 1 + 1) 2 (.slice b2 m.smiths.length q2) (by omega))
  replace BB : Hid (Below w.heap.size w (w3.setCell ⟨w.heap.size + 1 + 1, 2, none⟩ (.slice b2 m.smiths.length q2))) := hide ((unhide BB).setCell (p := ⟨w.heap.size + 1 + 1, 2, none⟩) (by show w.heap.size ≤ w.heap.size + 1 + 1; omega) _)
  have hW3 : w.heap.size + 3 ≤ (w3.setCell ⟨w.heap.size + 1 + 1, 2, none⟩ (.slice b2 m.smiths.length q2)).heap.size := by have := (unhide ko).lt; omega
  clear o2 f2 c3 hW hW2
  generalize (w3.setCell ⟨w.heap.size + 1 + 1, 2, none⟩ (.slice b2 m.smiths.length q2)) = W at *
  have hW := hW3
  clear hW3
  refine (toDeskS_any ((unhide Hv).below (unhide BB)).desks (unhide Hs).desks).mono ?_
  rintro e w4 ⟨u3, rfl, hp, hb⟩
  have n3 : Hid (DesksAt (w.heap.size + 3) w4 u3 m.desks) := hide (RecAt.mono hp hW)
  replace n0 := hide ((unhide n0).below hb)
  replace n1 := hide (RecAt.later (unhide n1) hb)
  replace n2 := hide (RecAt.later (unhide n2) hb)
  replace ka := hide ((unhide ka).below hb (unhide ka).lt)
  replace kr := hide ((unhide kr).below hb (unhide kr).lt)
  replace ko := hide ((unhide ko).below hb (unhide ko).lt)
  replace BB := hide ((unhide BB).trans (hb.mono (unhide BB).size))
  have hW2 : w.heap.size + 3 ≤ w4.heap.size := by have := hb.size; omega
  obtain ⟨b3, q3, rfl⟩ := RecAt.shape hp
  clear hp hb
  have o3 := (unhide ko).cell (i := 3) (v := .slice none 0 0) rfl
  have f3 := (unhide ko).free 3
  have c4 := (unhide ka).cell (i := 4) (v := .slice a4 m.paces.length p4) rfl
  go_wp2_with fail
  replace ka : Hid (Blk (w4.setCell ⟨w.heap.size + 1 + 1, 3, none⟩ (.slice b3 m.desks.length q3)) w.heap.size 56 #[.slice a0 m.rooms.length p0, .slice a1 m.guilds.length p1, .slice a2 m.smiths.length p2, .slice a3 m.desks.length p3, .slice a4 m.paces.length p4, .int .i64 m.now]) := hide ((unhide ka).other (a := ⟨w.heap.size + 1 + 1, 3, none⟩) (by show w.heap.size ≠ w.heap.size + 1 + 1; omega) _)
  replace kr : Hid (Blk (w4.setCell ⟨w.heap.size + 1 + 1, 3, none⟩ (.slice b3 m.desks.length q3)) (w.heap.size + 1) 32 #[.slice none 0 0, .slice none 0 0, .slice none 0 0, .slice none 0 0, .slice none 0 0, .int .i64 0]) := hide ((unhide kr).other (a := ⟨w.heap.size + 1 + 1, 3, none⟩) (by show w.heap.size + 1 ≠ w.heap.size + 1 + 1; omega) _)
  replace ko : Hid (Blk (w4.setCell ⟨w.heap.size + 1 + 1, 3, none⟩ (.slice b3 m.desks.length q3)) (w.heap.size + 1 + 1) 32 #[.slice b0 m.rooms.length q0, .slice b1 m.guilds.length q1, .slice b2 m.smiths.length q2, .slice b3 m.desks.length q3, .slice none 0 0, .int .i64 0]) := hide ((unhide ko).set 3 _)
  replace n0 := hide ((unhide n0).set (w.heap.size + 1 + 1) 3 (.slice b3 m.desks.length q3) (by omega))
  replace n1 := hide (RecAt.set_old (unhide n1) (w.heap.size + 1 + 1) 3 (.slice b3 m.desks.length q3) (by omega))
  replace n2 := hide (RecAt.set_old (unhide n2) (w.heap.size + 1 + 1) 3 (.slice b3 m.desks.length q3) (by omega))
  replace n3 := hide (RecAt.set_old (unhide n3) (w.heap.size + 1 + 1) 3 (.slice b3 m.desks.length q3) (by omega))
  replace BB : Hid (Below w.heap.size w (w4.setCell ⟨w.heap.size + 1 + 1, 3, none⟩ (.slice b3 m.desks.length q3))) := hide ((unhide BB).setCell (p := ⟨w.heap.size + 1 + 1, 3, none⟩) (by show w.heap.size ≤ w.heap.size + 1 + 1; omega) _)
  have hW3 : w.heap.size + 3 ≤ (w4.setCell ⟨w.heap.size + 1 + 1, 3, none⟩ (.slice b3 m.desks.length q3)).heap.size := by have := (unhide ko).lt; omega
  clear o3 f3 c4 hW hW2
  generalize (w4.setCell ⟨w.heap.size + 1 + 1, 3, none⟩ (.slice b3 m.desks.length q3)) = W at *
  have hW := hW3
  clear hW3
  refine (toInt64S_any ((unhide Hv).below (unhide BB)).paces (unhide Hs).paces).mono ?_
  rintro e w5 ⟨u4, rfl, hp, hb⟩
  have n4 : Hid (NumsAt (w.heap.size + 3) w5 u4 m.paces) := hide (RecAt.mono hp hW)
  replace n0 := hide ((unhide n0).below hb)
  replace n1 := hide (RecAt.later (unhide n1) hb)
  replace n2 := hide (RecAt.later (unhide n2) hb)
  replace n3 := hide (RecAt.later (unhide n3) hb)
  replace ka := hide ((unhide ka).below hb (unhide ka).lt)
  replace kr := hide ((unhide kr).below hb (unhide kr).lt)
  replace ko := hide ((unhide ko).below hb (unhide ko).lt)
  replace BB := hide ((unhide BB).trans (hb.mono (unhide BB).size))
  have hW2 : w.heap.size + 3 ≤ w5.heap.size := by have := hb.size; omega
  obtain ⟨b4, q4, rfl⟩ := RecAt.shape hp
  clear hp hb
  have o4 := (unhide ko).cell (i := 4) (v := .slice none 0 0) rfl
  have f4 := (unhide ko).free 4
  have o0 := (unhide ko).cell (i := 0) (v := .slice b0 m.rooms.length q0) rfl
  have r0 := (unhide kr).cell (i := 0) (v := .slice none 0 0) rfl
  have rf0 := (unhide kr).free 0
  have o1 := (unhide ko).cell (i := 1) (v := .slice b1 m.guilds.length q1) rfl
  have r1 := (unhide kr).cell (i := 1) (v := .slice none 0 0) rfl
  have rf1 := (unhide kr).free 1
  have o2 := (unhide ko).cell (i := 2) (v := .slice b2 m.smiths.length q2) rfl
  have r2 := (unhide kr).cell (i := 2) (v := .slice none 0 0) rfl
  have rf2 := (unhide kr).free 2
  have o3 := (unhide ko).cell (i := 3) (v := .slice b3 m.desks.length q3) rfl
  have r3 := (unhide kr).cell (i := 3) (v := .slice none 0 0) rfl
  have rf3 := (unhide kr).free 3
  have r4 := (unhide kr).cell (i := 4) (v := .slice none 0 0) rfl
  have rf4 := (unhide kr).free 4
  have o5 := (unhide ko).cell (i := 5) (v := .int .i64 0) rfl
  have r5 := (unhide kr).cell (i := 5) (v := .int .i64 0) rfl
  have rf5 := (unhide kr).free 5
  have f5 := (unhide ko).free 5
  have c5 := (unhide ka).cell (i := 5) (v := .int .i64 m.now) rfl
  go_wp2_with fail
  refine bodyPost_ret (v := .agg #[.slice b0 m.rooms.length q0, .slice b1 m.guilds.length q1, .slice b2 m.smiths.length q2, .slice b3 m.desks.length q3, .slice b4 m.paces.length q4, .int .i64 m.now]) (by simp [results, Tryz.results29, go_sem, r0, r1, r2, r3, r4, r5]) rfl ⟨_, _, _, _, _, rfl, ?_, ?_⟩
  · refine OwnSmy.mono ?_ (show w.heap.size ≤ w.heap.size + 3 by omega)
    iterate 8 (refine OwnSmy.set ?_ _ _ _ (by omega))
    exact ⟨unhide n0, unhide n1, unhide n2, unhide n3, unhide n4⟩
  · iterate 8 (refine Below.setCell ?_ (by first | (show _ ≤ w.heap.size + 1 + 1; omega) | (show _ ≤ w.heap.size + 1; omega)) _)
    exact unhide BB

set_option maxHeartbeats 2000000 in
theorem eqSmithy_yes {w : World} {v0 v1 v2 v3 v4 u0 u1 u2 u3 u4 : Value} {m : SmyV} (h : Smy w v0 v1 v2 v3 v4 m) (k : Smy w u0 u1 u2 u3 u4 m) :
    Calls Tryz.prog 31 #[.agg #[v0, v1, v2, v3, v4, .int .i64 m.now], .agg #[u0, u1, u2, u3, u4, .int .i64 m.now]] w fun e w' => e = .returned (.bool true) ∧ Below w.heap.size w w' := by
  have Hv := hide h
  have Hu := hide k
  obtain ⟨a0, p0, rfl, _, _⟩ := IsRooms.shape h.rooms
  obtain ⟨a1, p1, rfl, hc1, hm1⟩ := IsRec.shape h.guilds
  obtain ⟨a2, p2, rfl, hc2, hm2⟩ := IsRec.shape h.smiths
  obtain ⟨a3, p3, rfl, hc3, hm3⟩ := IsRec.shape h.desks
  obtain ⟨a4, p4, rfl, hc4, hm4⟩ := IsRec.shape h.paces
  obtain ⟨b0, q0, rfl, _, _⟩ := IsRooms.shape k.rooms
  obtain ⟨b1, q1, rfl, _, _⟩ := IsRec.shape k.guilds
  obtain ⟨b2, q2, rfl, _, _⟩ := IsRec.shape k.smiths
  obtain ⟨b3, q3, rfl, _, _⟩ := IsRec.shape k.desks
  obtain ⟨b4, q4, rfl, _, _⟩ := IsRec.shape k.paces
  clear h k
  go_enter Tryz.func31, Tryz.ntmps31
  go_wp2_with fail
  have BB : Hid (Below w.heap.size w ((w.alloc (.cells #[.slice a0 m.rooms.length p0, .slice a1 m.guilds.length p1, .slice a2 m.smiths.length p2, .slice a3 m.desks.length p3, .slice a4 m.paces.length p4, .int .i64 m.now] 32)).alloc (.cells #[.slice b0 m.rooms.length q0, .slice b1 m.guilds.length q1, .slice b2 m.smiths.length q2, .slice b3 m.desks.length q3, .slice b4 m.paces.length q4, .int .i64 m.now] 32))) := hide (((Below.refl _ _).alloc (Nat.le_refl _) _).alloc (by simp) _)
  have ka : Hid (Blk ((w.alloc (.cells #[.slice a0 m.rooms.length p0, .slice a1 m.guilds.length p1, .slice a2 m.smiths.length p2, .slice a3 m.desks.length p3, .slice a4 m.paces.length p4, .int .i64 m.now] 32)).alloc (.cells #[.slice b0 m.rooms.length q0, .slice b1 m.guilds.length q1, .slice b2 m.smiths.length q2, .slice b3 m.desks.length q3, .slice b4 m.paces.length q4, .int .i64 m.now] 32)) w.heap.size 32 #[.slice a0 m.rooms.length p0, .slice a1 m.guilds.length p1, .slice a2 m.smiths.length p2, .slice a3 m.desks.length p3, .slice a4 m.paces.length p4, .int .i64 m.now]) := hide ((Blk.new w _ _).alloc _)
  have kb : Hid (Blk ((w.alloc (.cells #[.slice a0 m.rooms.length p0, .slice a1 m.guilds.length p1, .slice a2 m.smiths.length p2, .slice a3 m.desks.length p3, .slice a4 m.paces.length p4, .int .i64 m.now] 32)).alloc (.cells #[.slice b0 m.rooms.length q0, .slice b1 m.guilds.length q1, .slice b2 m.smiths.length q2, .slice b3 m.desks.length q3, .slice b4 m.paces.length q4, .int .i64 m.now] 32)) (w.heap.size + 1) 32 #[.slice b0 m.rooms.length q0, .slice b1 m.guilds.length q1, .slice b2 m.smiths.length q2, .slice b3 m.desks.length q3, .slice b4 m.paces.length q4, .int .i64 m.now]) := hide (by
    have k := Blk.new (w.alloc (.cells #[.slice a0 m.rooms.length p0, .slice a1 m.guilds.length p1, .slice a2 m.smiths.length p2, .slice a3 m.desks.length p3, .slice a4 m.paces.length p4, .int .i64 m.now] 32)) 32 #[.slice b0 m.rooms.length q0, .slice b1 m.guilds.length q1, .slice b2 m.smiths.length q2, .slice b3 m.desks.length q3, .slice b4 m.paces.length q4, .int .i64 m.now]
    rw [World.size_alloc] at k
    exact k)
  generalize (w.alloc (.cells #[.slice a0 m.rooms.length p0, .slice a1 m.guilds.length p1, .slice a2 m.smiths.length p2, .slice a3 m.desks.length p3, .slice a4 m.paces.length p4, .int .i64 m.now] 32)).alloc (.cells #[.slice b0 m.rooms.length q0, .slice b1 m.guilds.length q1, .slice b2 m.smiths.length q2, .slice b3 m.desks.length q3, .slice b4 m.paces.length q4, .int .i64 m.now] 32) = W at *
  refine (eqHall_yes ((unhide Hv).below (unhide BB)).rooms ((unhide Hu).below (unhide BB)).rooms).mono ?_
  rintro e w1 ⟨rfl, hb⟩
  replace ka := hide ((unhide ka).below hb (unhide ka).lt)
  replace kb := hide ((unhide kb).below hb (unhide kb).lt)
  replace BB := hide ((unhide BB).trans (hb.mono (unhide BB).size))
  clear hb
  have c1 := (unhide ka).cell (i := 1) (v := .slice a1 m.guilds.length p1) rfl
  have d1 := (unhide kb).cell (i := 1) (v := .slice b1 m.guilds.length q1) rfl
  go_wp2_with fail
  clear c1 d1
  refine (eqGuildS_yes ((unhide Hv).below (unhide BB)).guilds ((unhide Hu).below (unhide BB)).guilds).mono ?_
  rintro e w2 ⟨rfl, hb⟩
  replace ka := hide ((unhide ka).below hb (unhide ka).lt)
  replace kb := hide ((unhide kb).below hb (unhide kb).lt)
  replace BB := hide ((unhide BB).trans (hb.mono (unhide BB).size))
  clear hb
  have c2 := (unhide ka).cell (i := 2) (v := .slice a2 m.smiths.length p2) rfl
  have d2 := (unhide kb).cell (i := 2) (v := .slice b2 m.smiths.length q2) rfl
  go_wp2_with fail
  clear c2 d2
  refine (eqSmithS_yes ((unhide Hv).below (unhide BB)).smiths ((unhide Hu).below (unhide BB)).smiths).mono ?_
  rintro e w3 ⟨rfl, hb⟩
  replace ka := hide ((unhide ka).below hb (unhide ka).lt)
  replace kb := hide ((unhide kb).below hb (unhide kb).lt)
  replace BB := hide ((unhide BB).trans (hb.mono (unhide BB).size))
  clear hb
  have c3 := (unhide ka).cell (i := 3) (v := .slice a3 m.desks.length p3) rfl
  have d3 := (unhide kb).cell (i := 3) (v := .slice b3 m.desks.length q3) rfl
  go_wp2_with fail
  clear c3 d3
  refine (eqDeskS_yes ((unhide Hv).below (unhide BB)).desks ((unhide Hu).below (unhide BB)).desks).mono ?_
  rintro e w4 ⟨rfl, hb⟩
  replace ka := hide ((unhide ka).below hb (unhide ka).lt)
  replace kb := hide ((unhide kb).below hb (unhide kb).lt)
  replace BB := hide ((unhide BB).trans (hb.mono (unhide BB).size))
  clear hb
  have c4 := (unhide ka).cell (i := 4) (v := .slice a4 m.paces.length p4) rfl
  have d4 := (unhide kb).cell (i := 4) (v := .slice b4 m.paces.length q4) rfl
  go_wp2_with fail
  clear c4 d4
  refine (eqNums_yes ((unhide Hv).below (unhide BB)).paces ((unhide Hu).below (unhide BB)).paces).mono ?_
  rintro e w5 ⟨rfl, hb⟩
  replace ka := hide ((unhide ka).below hb (unhide ka).lt)
  replace kb := hide ((unhide kb).below hb (unhide kb).lt)
  replace BB := hide ((unhide BB).trans (hb.mono (unhide BB).size))
  clear hb
  have c5 := (unhide ka).cell (i := 5) (v := .int .i64 m.now) rfl
  have d5 := (unhide kb).cell (i := 5) (v := .int .i64 m.now) rfl
  go_wp2_with fail
  go_ret
  exact ⟨rfl, unhide BB⟩

end Go.Proofs.YtifolooecfebfaaGreat

/- A smithy that a call holds in a box of its own: what is known of it, said once. Condition: the smithy can be read. -/
namespace Go.Proofs.YtifolooecfebfaaGreat
open Go.ChangeShapes Go.WideShapes Go.ChangeAt Go.RowKit Go.Sort
set_option linter.unusedVariables false

/-- The box R holds the smithy's five slices and its clock, they read as m, and nothing that was there ahead of the call has changed. -/
structure Bx (w W : World) (R : Nat) (a0 : Option Addr) (p0 : Nat) (a1 : Option Addr) (p1 : Nat) (a2 : Option Addr) (p2 : Nat) (a3 : Option Addr) (p3 : Nat) (a4 : Option Addr) (p4 : Nat) (m : SmyV) : Prop where
  smy : Smy W (.slice a0 m.rooms.length p0) (.slice a1 m.guilds.length p1) (.slice a2 m.smiths.length p2) (.slice a3 m.desks.length p3) (.slice a4 m.paces.length p4) m
  blk : Blk W R 32 #[.slice a0 m.rooms.length p0, .slice a1 m.guilds.length p1, .slice a2 m.smiths.length p2, .slice a3 m.desks.length p3, .slice a4 m.paces.length p4, .int .i64 m.now]
  bb : Below w.heap.size w W
section
variable {w W X : World} {R : Nat} {a0 a1 a2 a3 a4 : Option Addr} {p0 p1 p2 p3 p4 : Nat} {m : SmyV}
theorem Bx.next (h : Bx w W R a0 p0 a1 p1 a2 p2 a3 p3 a4 p4 m) (hb : Below W.heap.size W X) : Bx w X R a0 p0 a1 p1 a2 p2 a3 p3 a4 p4 m := ⟨h.smy.below hb, h.blk.below hb h.blk.lt, h.bb.trans (hb.mono h.bb.size)⟩
theorem Bx.alloc (h : Bx w W R a0 p0 a1 p1 a2 p2 a3 p3 a4 p4 m) (o : Obj) : Bx w (W.alloc o) R a0 p0 a1 p1 a2 p2 a3 p3 a4 p4 m := h.next ((Below.refl _ _).alloc (Nat.le_refl _) _)
theorem Bx.cells (h : Bx w W R a0 p0 a1 p1 a2 p2 a3 p3 a4 p4 m) : W.cell? ⟨R, 0, none⟩ = some (.slice a0 m.rooms.length p0) ∧ W.cell? ⟨R, 1, none⟩ = some (.slice a1 m.guilds.length p1) ∧ W.cell? ⟨R, 2, none⟩ = some (.slice a2 m.smiths.length p2) ∧ W.cell? ⟨R, 3, none⟩ = some (.slice a3 m.desks.length p3) ∧ W.cell? ⟨R, 4, none⟩ = some (.slice a4 m.paces.length p4) ∧ W.cell? ⟨R, 5, none⟩ = some (.int .i64 m.now) := h.blk.c6
end
theorem Bx.new {w : World} {v0 v1 v2 v3 v4 : Value} {m : SmyV} (h : Smy w v0 v1 v2 v3 v4 m) : ∃ a0 p0 a1 p1 a2 p2 a3 p3 a4 p4, v0 = .slice a0 m.rooms.length p0 ∧ v1 = .slice a1 m.guilds.length p1 ∧ v2 = .slice a2 m.smiths.length p2 ∧ v3 = .slice a3 m.desks.length p3 ∧ v4 = .slice a4 m.paces.length p4 ∧ Bx w (w.alloc (.cells #[.slice a0 m.rooms.length p0, .slice a1 m.guilds.length p1, .slice a2 m.smiths.length p2, .slice a3 m.desks.length p3, .slice a4 m.paces.length p4, .int .i64 m.now] 32)) w.heap.size a0 p0 a1 p1 a2 p2 a3 p3 a4 p4 m := by
  obtain ⟨a0, p0, a1, p1, a2, p2, a3, p3, a4, p4, rfl, rfl, rfl, rfl, rfl, _⟩ := h.five
  exact ⟨a0, p0, a1, p1, a2, p2, a3, p3, a4, p4, rfl, rfl, rfl, rfl, rfl, h.alloc _, Blk.new _ _ _, (Below.refl _ _).alloc (Nat.le_refl _) _⟩
theorem Bx.grown {w W X : World} {R : Nat} {a0 a1 a2 a3 a4 : Option Addr} {p0 p1 p2 p3 p4 : Nat} {m : SmyV} {r : Option Nat} (h : Bx w W R a0 p0 a1 p1 a2 p2 a3 p3 a4 p4 m) (hs : Smy w (.slice a0 m.rooms.length p0) (.slice a1 m.guilds.length p1) (.slice a2 m.smiths.length p2) (.slice a3 m.desks.length p3) (.slice a4 m.paces.length p4) m) (hg : W.grownBy X r) (hr : ∀ k, r = some k → w.heap.size ≤ k ∧ k ≠ R) : Bx w X R a0 p0 a1 p1 a2 p2 a3 p3 a4 p4 m := by
  have hb : Below w.heap.size w X := h.bb.grown hg h.bb.size (fun k e => (hr k e).1)
  exact ⟨hs.below hb, (hg.block _ h.blk.lt (fun e => (hr R e.symm).2 rfl)).trans h.blk, hb⟩

end Go.Proofs.YtifolooecfebfaaGreat

