/- What the proof rests on, part 6: lists and numbers, how they lie in memory, and contracts of the calls. No condition but those that a theorem names. -/
import Derived.Test.YtffcgajndmhpkaaGreatXv01
import Derived.Test.YtffcgajndmhpkaaGreatXv02
import Derived.Test.YtffcgajndmhpkaaGreatXv03
import Derived.Test.YtffcgajndmhpkaaGreatXv05
import Derived.Deep.DeepCutAuto
import GoSem.Claim
import GoSem.ClaimJoined
import GoSem.ClaimMapViews
import Derived.JoinedTies
import Derived.KernelRfl
import Derived.RowKit
import Derived.WalkKit
import Derived.ProofKit
import Derived.OpenShut
import Derived.Outline
import Derived.Lib.QuietBelow
import Derived.Deep.DrawnRows
import Derived.BigRegion
import Derived.Deep.RegionLawGrows
import Derived.Deep.RegionWith
import Derived.Deep.QuietTactic
import Derived.BigQuiet
import Derived.Laws.OwnMore
import Derived.OwnWalk
import Derived.Maps.AppendAt
import Derived.Lib.SmallJoins
import Derived.Deep.Fields
import Derived.Deep.Slices
import Derived.OrdersHeld
import Derived.Deep.RegionHeldLaw
/- Contracts of the laws' own helpers over smithies: how big one is, its copy in memory of its own, that two that read alike are alike. Conditions: the slices can be read; what is copied is no longer than 2^20. -/
namespace Go.Proofs.YtffcgajndmhpkaaGreat
open Go.ChangeShapes Go.WideShapes Go.ChangeAt Go.RowKit Go.Sort
set_option linter.unusedVariables false

set_option maxHeartbeats 1000000 in
theorem szHall_le {w : World} {v : Value} {rs : List RoomV} (h : IsRooms w v rs) (left : Int) (h0 : 0 ≤ left) (h1 : left ≤ 1048576) :
    Calls Tryz.prog 9 #[.agg #[v], .int .i64 left] w fun e w' => ∃ x : Int, e = .returned (.int .i64 x) ∧ x ≤ 1048576 ∧ (0 ≤ x → Small rs) ∧ Below w.heap.size w w' := by
  have Hv := hide h
  obtain ⟨a, cap, rfl, hc, hm, hr⟩ := h
  clear hr
  go_enter Tryz.func9, Tryz.ntmps9
  go_wp2_with fail
  refine (szRoomS_any ((unhide Hv).alloc _) left h0 h1).mono ?_
  rintro e w1 ⟨x, rfl, x1, hx, hb⟩
  have Hx := hide hx
  have Hb := hide hb
  clear hx hb
  by_cases hx0 : x < 0
  · go_wp2_with fail
    go_ret
    exact ⟨-1, rfl, by omega, fun h => by omega, ((Below.refl _ _).alloc (Nat.le_refl _) _).trans ((unhide Hb).mono (by simp))⟩
  · go_wp2_with fail
    go_ret
    exact ⟨x, rfl, x1, unhide Hx, ((Below.refl _ _).alloc (Nat.le_refl _) _).trans ((unhide Hb).mono (by simp))⟩
set_option maxHeartbeats 2000000 in
theorem szSmithy_any {w : World} {v0 v1 v2 v3 v4 : Value} {m : SmyV} (h : Smy w v0 v1 v2 v3 v4 m) :
    Calls Tryz.prog 4 #[.agg #[v0, v1, v2, v3, v4, .int .i64 m.now], .int .i64 1048576] w fun e w' => ∃ x : Int, e = .returned (.int .i64 x) ∧ (0 ≤ x → SmySmall m) ∧ Below w.heap.size w w' := by
  have Hv := hide h
  obtain ⟨a0, p0, rfl, _, _⟩ := IsRooms.shape h.rooms
  obtain ⟨a1, p1, rfl, hc1, hm1⟩ := IsRec.shape h.guilds
  obtain ⟨a2, p2, rfl, hc2, hm2⟩ := IsRec.shape h.smiths
  obtain ⟨a3, p3, rfl, hc3, hm3⟩ := IsRec.shape h.desks
  obtain ⟨a4, p4, rfl, hc4, hm4⟩ := IsRec.shape h.paces
  clear h
  go_enter Tryz.func4, Tryz.ntmps4
  go_wp2_with fail
  refine (szHall_le ((unhide Hv).alloc _).rooms _ (by omega) (by omega)).mono ?_
  rintro e w1 ⟨x, rfl, x1, hx, hb⟩
  have kb : Hid (Blk w1 w.heap.size 30 #[.slice a0 m.rooms.length p0, .slice a1 m.guilds.length p1, .slice a2 m.smiths.length p2, .slice a3 m.desks.length p3, .slice a4 m.paces.length p4, .int .i64 m.now]) := hide ((Blk.new w _ _).below hb (by simp))
  have BB : Hid (Below w.heap.size w w1) := hide (((Below.refl _ _).alloc (Nat.le_refl _) _).trans (hb.mono (by simp)))
  have Hx := hide hx
  clear hx hb
  have c1 := (unhide kb).cell (i := 1) (v := .slice a1 m.guilds.length p1) rfl
  have c2 := (unhide kb).cell (i := 2) (v := .slice a2 m.smiths.length p2) rfl
  have c3 := (unhide kb).cell (i := 3) (v := .slice a3 m.desks.length p3) rfl
  have c4 := (unhide kb).cell (i := 4) (v := .slice a4 m.paces.length p4) rfl
  by_cases hx0 : x < 0
  · go_wp2_with fail
    go_ret
    exact ⟨-1, rfl, fun h => by omega, unhide BB⟩
  go_wp2_with fail
  refine (szGuildS_any _ _ _ _ (by omega) (by omega) (by omega) _).mono ?_
  by_cases g0 : x - (m.guilds.length : Int) < 0
  · rw [szV_f g0]
    rintro e w' ⟨rfl, h9⟩
    subst w'
    go_wp2_with fail
    go_ret
    exact ⟨-1, rfl, fun h => by omega, unhide BB⟩
  rw [szV_t g0]
  rintro e w' ⟨rfl, h9⟩
  subst w'
  go_wp2_with fail
  refine (szSmithS_any _ _ _ _ (by omega) (by omega) (by omega) _).mono ?_
  by_cases g1 : x - (m.guilds.length : Int) - (m.smiths.length : Int) < 0
  · rw [szV_f g1]
    rintro e w' ⟨rfl, h9⟩
    subst w'
    go_wp2_with fail
    go_ret
    exact ⟨-1, rfl, fun h => by omega, unhide BB⟩
  rw [szV_t g1]
  rintro e w' ⟨rfl, h9⟩
  subst w'
  go_wp2_with fail
  refine (szDeskS_any _ _ _ _ (by omega) (by omega) (by omega) _).mono ?_
  by_cases g2 : x - (m.guilds.length : Int) - (m.smiths.length : Int) - (m.desks.length : Int) < 0
  · rw [szV_f g2]
    rintro e w' ⟨rfl, h9⟩
    subst w'
    go_wp2_with fail
    go_ret
    exact ⟨-1, rfl, fun h => by omega, unhide BB⟩
  rw [szV_t g2]
  rintro e w' ⟨rfl, h9⟩
  subst w'
  go_wp2_with fail
  refine (szInt64S_any _ _ _ _ (by omega) (by omega) (by omega) _).mono ?_
  by_cases g3 : x - (m.guilds.length : Int) - (m.smiths.length : Int) - (m.desks.length : Int) - (m.paces.length : Int) < 0
  · rw [szV_f g3]
    rintro e w' ⟨rfl, h9⟩
    subst w'
    go_wp2_with fail
    go_ret
    exact ⟨-1, rfl, fun h => by omega, unhide BB⟩
  rw [szV_t g3]
  rintro e w' ⟨rfl, h9⟩
  subst w'
  go_wp2_with fail
  go_ret
  exact ⟨_, rfl, fun _ => ⟨unhide Hx (by omega), by omega, by omega, by omega, by omega⟩, unhide BB⟩

set_option maxHeartbeats 2000000 in
theorem toHall_own {w : World} {v : Value} {rs : List RoomV} (h : IsRooms w v rs) (hs : Small rs) :
    Calls Tryz.prog 17 #[.agg #[v]] w fun e w' => ∃ v', e = .returned (.agg #[v']) ∧ RoomsFrom w.heap.size w' v' rs ∧ Below w.heap.size w w' := by
  have Hv := hide h
  obtain ⟨a, cap, rfl, hc, hm, hr⟩ := h
  clear hr
  have Hb0 : Hid (∀ o1 o2 o3 : Obj, Below w.heap.size w (((w.alloc o1).alloc o2).alloc o3)) := hide (fun o1 o2 o3 => (((Below.refl _ _).alloc (Nat.le_refl _) _).alloc (by simp) _).alloc (by simp; omega) _)
  go_enter Tryz.func17, Tryz.ntmps17
  go_wp2_with fail
  refine (toRoomS_any ((unhide Hv).below (unhide Hb0 _ _ _)) hs).mono ?_
  rintro e w1 ⟨v', rfl, hp, hb1⟩
  simp only [World.size_alloc] at hp
  have hsz : w.heap.size + 3 ≤ w1.heap.size := by have := hb1.size; simp at this; omega
  obtain ⟨cc, ff⟩ := bcell hb1
  have x0 := cc (w.heap.size + 2) 0 (by simp)
  have y0 := cc (w.heap.size + 1) 0 (by simp)
  have fx0 := ff (w.heap.size + 2) 0 (by simp)
  have fy0 := ff (w.heap.size + 1) 0 (by simp)
  have Hp := hide hp
  have Hb1 := hide hb1
  obtain ⟨a', cap', rfl, _⟩ := hp
  clear cc ff hb1
  go_wp2_with fail
  have B1 : Below w.heap.size w w1 := (unhide Hb0 _ _ _).trans ((unhide Hb1).mono (by simp; omega))
  refine bodyPost_ret (v := .agg #[.slice a' rs.length cap']) (by simp [results, Tryz.results17, go_sem, *]) rfl ⟨_, rfl, ?_, ?_⟩
  · exact (((unhide Hp).set _ _ _ (by omega)).set _ _ _ (by omega)).mono (by omega)
  · exact (B1.setCell (by show _ ≤ w.heap.size + 1 + 1; omega) _).setCell (by show _ ≤ w.heap.size + 1; omega) _

set_option maxRecDepth 100000 in
set_option maxHeartbeats 4000000 in
theorem toSmithy_any {w : World} {v0 v1 v2 v3 v4 : Value} {m : SmyV} (h : Smy w v0 v1 v2 v3 v4 m) (hs : SmySmall m) :
    Calls Tryz.prog 6 #[.agg #[v0, v1, v2, v3, v4, .int .i64 m.now]] w fun e w' => ∃ u0 u1 u2 u3 u4, e = .returned (.agg #[u0, u1, u2, u3, u4, .int .i64 m.now]) ∧ OwnSmy w.heap.size w' u0 u1 u2 u3 u4 m ∧ Below w.heap.size w w' := by
  have Hv := hide h
  have Hs := hide hs
  obtain ⟨a0, p0, rfl, _, _⟩ := IsRooms.shape h.rooms
  obtain ⟨a1, p1, rfl, hc1, hm1⟩ := IsRec.shape h.guilds
  obtain ⟨a2, p2, rfl, hc2, hm2⟩ := IsRec.shape h.smiths
  obtain ⟨a3, p3, rfl, hc3, hm3⟩ := IsRec.shape h.desks
  obtain ⟨a4, p4, rfl, hc4, hm4⟩ := IsRec.shape h.paces
  clear h hs
  go_enter Tryz.func6, Tryz.ntmps6
  go_wp2_with fail
  have BB : Hid (Below w.heap.size w (((w.alloc (.cells #[.slice a0 m.rooms.length p0, .slice a1 m.guilds.length p1, .slice a2 m.smiths.length p2, .slice a3 m.desks.length p3, .slice a4 m.paces.length p4, .int .i64 m.now] 30)).alloc (.cells #[.slice none 0 0, .slice none 0 0, .slice none 0 0, .slice none 0 0, .slice none 0 0, .int .i64 0] 40)).alloc (.cells #[.slice none 0 0, .slice none 0 0, .slice none 0 0, .slice none 0 0, .slice none 0 0, .int .i64 0] 40))) := hide ((((Below.refl _ _).alloc (Nat.le_refl _) _).alloc (by simp) _).alloc (by simp; omega) _)
  have ka : Hid (Blk (((w.alloc (.cells #[.slice a0 m.rooms.length p0, .slice a1 m.guilds.length p1, .slice a2 m.smiths.length p2, .slice a3 m.desks.length p3, .slice a4 m.paces.length p4, .int .i64 m.now] 30)).alloc (.cells #[.slice none 0 0, .slice none 0 0, .slice none 0 0, .slice none 0 0, .slice none 0 0, .int .i64 0] 40)).alloc (.cells #[.slice none 0 0, .slice none 0 0, .slice none 0 0, .slice none 0 0, .slice none 0 0, .int .i64 0] 40)) w.heap.size 30 #[.slice a0 m.rooms.length p0, .slice a1 m.guilds.length p1, .slice a2 m.smiths.length p2, .slice a3 m.desks.length p3, .slice a4 m.paces.length p4, .int .i64 m.now]) := hide (((Blk.new w _ _).alloc _).alloc _)
  have kr : Hid (Blk (((w.alloc (.cells #[.slice a0 m.rooms.length p0, .slice a1 m.guilds.length p1, .slice a2 m.smiths.length p2, .slice a3 m.desks.length p3, .slice a4 m.paces.length p4, .int .i64 m.now] 30)).alloc (.cells #[.slice none 0 0, .slice none 0 0, .slice none 0 0, .slice none 0 0, .slice none 0 0, .int .i64 0] 40)).alloc (.cells #[.slice none 0 0, .slice none 0 0, .slice none 0 0, .slice none 0 0, .slice none 0 0, .int .i64 0] 40)) (w.heap.size + 1) 40 #[.slice none 0 0, .slice none 0 0, .slice none 0 0, .slice none 0 0, .slice none 0 0, .int .i64 0]) := hide (by
    have k := Blk.new (w.alloc (.cells #[.slice a0 m.rooms.length p0, .slice a1 m.guilds.length p1, .slice a2 m.smiths.length p2, .slice a3 m.desks.length p3, .slice a4 m.paces.length p4, .int .i64 m.now] 30)) 40 #[.slice none 0 0, .slice none 0 0, .slice none 0 0, .slice none 0 0, .slice none 0 0, .int .i64 0]
    rw [World.size_alloc] at k
    exact k.alloc _)
  have ko : Hid (Blk (((w.alloc (.cells #[.slice a0 m.rooms.length p0, .slice a1 m.guilds.length p1, .slice a2 m.smiths.length p2, .slice a3 m.desks.length p3, .slice a4 m.paces.length p4, .int .i64 m.now] 30)).alloc (.cells #[.slice none 0 0, .slice none 0 0, .slice none 0 0, .slice none 0 0, .slice none 0 0, .int .i64 0] 40)).alloc (.cells #[.slice none 0 0, .slice none 0 0, .slice none 0 0, .slice none 0 0, .slice none 0 0, .int .i64 0] 40)) (w.heap.size + 1 + 1) 40 #[.slice none 0 0, .slice none 0 0, .slice none 0 0, .slice none 0 0, .slice none 0 0, .int .i64 0]) := hide (by
    have k := Blk.new ((w.alloc (.cells #[.slice a0 m.rooms.length p0, .slice a1 m.guilds.length p1, .slice a2 m.smiths.length p2, .slice a3 m.desks.length p3, .slice a4 m.paces.length p4, .int .i64 m.now] 30)).alloc (.cells #[.slice none 0 0, .slice none 0 0, .slice none 0 0, .slice none 0 0, .slice none 0 0, .int .i64 0] 40)) 40 #[.slice none 0 0, .slice none 0 0, .slice none 0 0, .slice none 0 0, .slice none 0 0, .int .i64 0]
    rw [World.size_alloc, World.size_alloc] at k
    exact k)
  generalize ((w.alloc (.cells #[.slice a0 m.rooms.length p0, .slice a1 m.guilds.length p1, .slice a2 m.smiths.length p2, .slice a3 m.desks.length p3, .slice a4 m.paces.length p4, .int .i64 m.now] 30)).alloc (.cells #[.slice none 0 0, .slice none 0 0, .slice none 0 0, .slice none 0 0, .slice none 0 0, .int .i64 0] 40)).alloc (.cells #[.slice none 0 0, .slice none 0 0, .slice none 0 0, .slice none 0 0, .slice none 0 0, .int .i64 0] 40) = W at *
  have hW : w.heap.size + 3 ≤ W.heap.size := by have := (unhide ko).lt; omega
  refine (toHall_own ((unhide Hv).below (unhide BB)).rooms (unhide Hs).rooms).mono ?_
  rintro e w1 ⟨u0, rfl, hp, hb⟩
  have n0 : Hid (RoomsFrom (w.heap.size + 3) w1 u0 m.rooms) := hide (hp.mono hW)
  replace ka := hide ((unhide ka).below hb (unhide ka).lt)
  replace kr := hide ((unhide kr).below hb (unhide kr).lt)
  replace ko := hide ((unhide ko).below hb (unhide ko).lt)
  replace BB := hide ((unhide BB).trans (hb.mono (unhide BB).size))
  have hW2 : w.heap.size + 3 ≤ w1.heap.size := by have := hb.size; omega
  obtain ⟨b0, q0, rfl, _⟩ := hp
  clear hb
  have o0 := (unhide ko).cell (i := 0) (v := .slice none 0 0) rfl
  have f0 := (unhide ko).free 0
  have c1 := (unhide ka).cell (i := 1) (v := .slice a1 m.guilds.length p1) rfl
  go_wp2_with fail
  replace ka : Hid (Blk (w1.setCell ⟨w.heap.size + 1 + 1, 0, none⟩ (.slice b0 m.rooms.length q0)) w.heap.size 30 #[.slice a0 m.rooms.length p0, .slice a1 m.guilds.length p1, .slice a2 m.smiths.length p2, .slice a3 m.desks.length p3, .slice a4 m.paces.length p4, .int .i64 m.now]) := hide ((unhide ka).other (a := ⟨w.heap.size + 1 + 1, 0, none⟩) (by show w.heap.size ≠ w.heap.size + 1 + 1; omega) _)
  replace kr : Hid (Blk (w1.setCell ⟨w.heap.size + 1 + 1, 0, none⟩ (.slice b0 m.rooms.length q0)) (w.heap.size + 1) 40 #[.slice none 0 0, .slice none 0 0, .slice none 0 0, .slice none 0 0, .slice none 0 0, .int .i64 0]) := hide ((unhide kr).other (a := ⟨w.heap.size + 1 + 1, 0, none⟩) (by show w.heap.size + 1 ≠ w.heap.size + 1 + 1; omega) _)
  replace ko : Hid (Blk (w1.setCell ⟨w.heap.size + 1 + 1, 0, none⟩ (.slice b0 m.rooms.length q0)) (w.heap.size + 1 + 1) 40 #[.slice b0 m.rooms.length q0, .slice none 0 0, .slice none 0 0, .slice none 0 0, .slice none 0 0, .int .i64 0]) := hide ((unhide ko).set 0 _)
  replace n0 := hide ((unhide n0).set (w.heap.size + 1 + 1) 0 (.slice b0 m.rooms.length q0) (by omega))
  replace BB : Hid (Below w.heap.size w (w1.setCell ⟨w.heap.size + 1 + 1, 0, none⟩ (.slice b0 m.rooms.length q0))) := hide ((unhide BB).setCell (p := ⟨w.heap.size + 1 + 1, 0, none⟩) (by show w.heap.size ≤ w.heap.size + 1 + 1; omega) _)
  have hW3 : w.heap.size + 3 ≤ (w1.setCell ⟨w.heap.size + 1 + 1, 0, none⟩ (.slice b0 m.rooms.length q0)).heap.size := by have := (unhide ko).lt; omega
  clear o0 f0 c1 hW hW2
  generalize (w1.setCell ⟨w.heap.size + 1 + 1, 0, none⟩ (.slice b0 m.rooms.length q0)) = W at *
  have hW := hW3
  clear hW3
  refine (toGuildS_any ((unhide Hv).below (unhide BB)).guilds (unhide Hs).guilds).mono ?_
  rintro e w2 ⟨u1, rfl, hp, hb⟩
  have n1 : Hid (GuildsAt (w.heap.size + 3) w2 u1 m.guilds) := hide (RecAt.mono hp hW)
  replace n0 := hide ((unhide n0).below hb)
  replace ka := hide ((unhide ka).below hb (unhide ka).lt)
  replace kr := hide ((unhide kr).below hb (unhide kr).lt)
  replace ko := hide ((unhide ko).below hb (unhide ko).lt)
  replace BB := hide ((unhide BB).trans (hb.mono (unhide BB).size))
  have hW2 : w.heap.size + 3 ≤ w2.heap.size := by have := hb.size; omega
  obtain ⟨b1, q1, rfl⟩ := RecAt.shape hp
  clear hp hb
  have o1 := (unhide ko).cell (i := 1) (v := .slice none 0 0) rfl
  have f1 := (unhide ko).free 1
  have c2 := (unhide ka).cell (i := 2) (v := .slice a2 m.smiths.length p2) rfl
  go_wp2_with fail
  replace ka : Hid (Blk (w2.setCell ⟨w.heap.size + 1 + 1, 1, none⟩ (.slice b1 m.guilds.length q1)) w.heap.size 30 #[.slice a0 m.rooms.length p0, .slice a1 m.guilds.length p1, .slice a2 m.smiths.length p2, .slice a3 m.desks.length p3, .slice a4 m.paces.length p4, .int .i64 m.now]) := hide ((unhide ka).other (a := ⟨w.heap.size + 1 + 1, 1, none⟩) (by show w.heap.size ≠ w.heap.size + 1 + 1; omega) _)
  replace kr : Hid (Blk (w2.setCell ⟨w.heap.size + 1 + 1, 1, none⟩ (.slice b1 m.guilds.length q1)) (w.heap.size + 1) 40 #[.slice none 0 0, .slice none 0 0, .slice none 0 0, .slice none 0 0, .slice none 0 0, .int .i64 0]) := hide ((unhide kr).other (a := ⟨w.heap.size + 1 + 1, 1, none⟩) (by show w.heap.size + 1 ≠ w.heap.size + 1 + 1; omega) _)
  replace ko : Hid (Blk (w2.setCell ⟨w.heap.size + 1 + 1, 1, none⟩ (.slice b1 m.guilds.length q1)) (w.heap.size + 1 + 1) 40 #[.slice b0 m.rooms.length q0, .slice b1 m.guilds.length q1, .slice none 0 0, .slice none 0 0, .slice none 0 0, .int .i64 0]) := hide ((unhide ko).set 1 _)
  replace n0 := hide ((unhide n0).set (w.heap.size + 1 + 1) 1 (.slice b1 m.guilds.length q1) (by omega))
  replace n1 := hide (RecAt.set_old (unhide n1) (w.heap.size + 1 + 1) 1 (.slice b1 m.guilds.length q1) (by omega))
  replace BB : Hid (Below w.heap.size w (w2.setCell ⟨w.heap.size + 1 + 1, 1, none⟩ (.slice b1 m.guilds.length q1))) := hide ((unhide BB).setCell (p := ⟨w.heap.size + 1 + 1, 1, none⟩) (by show w.heap.size ≤ w.heap.size + 1 + 1; omega) _)
  have hW3 : w.heap.size + 3 ≤ (w2.setCell ⟨w.heap.size + 1 + 1, 1, none⟩ (.slice b1 m.guilds.length q1)).heap.size := by have := (unhide ko).lt; omega
  clear o1 f1 c2 hW hW2
  generalize (w2.setCell ⟨w.heap.size + 1 + 1, 1, none⟩ (.slice b1 m.guilds.length q1)) = W at *
  have hW := hW3
  clear hW3
  refine (toSmithS_any ((unhide Hv).below (unhide BB)).smiths (unhide Hs).smiths).mono ?_
  rintro e w3 ⟨u2, rfl, hp, hb⟩
  have n2 : Hid (SmithsAt (w.heap.size + 3) w3 u2 m.smiths) := hide (RecAt.mono hp hW)
  replace n0 := hide ((unhide n0).below hb)
  replace n1 := hide (RecAt.later (unhide n1) hb)
  replace ka := hide ((unhide ka).below hb (unhide ka).lt)
  replace kr := hide ((unhide kr).below hb (unhide kr).lt)
  replace ko := hide ((unhide ko).below hb (unhide ko).lt)
  replace BB := hide ((unhide BB).trans (hb.mono (unhide BB).size))
  have hW2 : w.heap.size + 3 ≤ w3.heap.size := by have := hb.size; omega
  obtain ⟨b2, q2, rfl⟩ := RecAt.shape hp
  clear hp hb
  have o2 := (unhide ko).cell (i := 2) (v := .slice none 0 0) rfl
  have f2 := (unhide ko).free 2
  have c3 := (unhide ka).cell (i := 3) (v := .slice a3 m.desks.length p3) rfl
  go_wp2_with fail
  replace ka : Hid (Blk (w3.setCell ⟨w.heap.size + 1 + 1, 2, none⟩ (.slice b2 m.smiths.length q2)) w.heap.size 30 #[.slice a0 m.rooms.length p0, .slice a1 m.guilds.length p1, .slice a2 m.smiths.length p2, .slice a3 m.desks.length p3, .slice a4 m.paces.length p4, .int .i64 m.now]) := hide ((unhide ka).other (a := ⟨w.heap.size + 1 + 1, 2, none⟩) (by show w.heap.size ≠ w.heap.size + 1 + 1; omega) _)
  replace kr : Hid (Blk (w3.setCell ⟨w.heap.size + 1 + 1, 2, none⟩ (.slice b2 m.smiths.length q2)) (w.heap.size + 1) 40 #[.slice none 0 0, .slice none 0 0, .slice none 0 0, .slice none 0 0, .slice none 0 0, .int .i64 0]) := hide ((unhide kr).other (a := ⟨w.heap.size + 1 + 1, 2, none⟩) (by show w.heap.size + 1 ≠ w.heap.size + 1 + 1; omega) _)
  replace ko : Hid (Blk (w3.setCell ⟨w.heap.size + 1 + 1, 2, none⟩ (.slice b2 m.smiths.length q2)) (w.heap.size + 1 + 1) 40 #[.slice b0 m.rooms.length q0, .slice b1 m.guilds.length q1, .slice b2 m.smiths.length q2, .slice none 0 0, .slice none 0 0, .int .i64 0]) := hide ((unhide ko).set 2 _)
  replace n0 := hide ((unhide n0).set (w.heap.size + 1 + 1) 2 (.slice b2 m.smiths.length q2) (by omega))
  replace n1 := hide (RecAt.set_old (unhide n1) (w.heap.size + 1 + 1) 2 (.slice b2 m.smiths.length q2) (by omega))
  replace n2 := hide (RecAt.set_old (unhide n2) (w.heap.size + 1 + 1) 2 (.slice b2 m.smiths.length q2) (by omega))
  replace BB : Hid (Below w.heap.size w (w3.setCell ⟨w.heap.size + 1 + 1, 2, none⟩ (.slice b2 m.smiths.length q2))) := hide ((unhide BB).setCell (p := ⟨w.heap.size + 1 + 1, 2, none⟩) (by show w.heap.size ≤ w.heap.size + 1 + 1; omega) _)
  have hW3 : w.heap.size + 3 ≤ (w3.setCell ⟨w.heap.size + 1 + 1, 2, none⟩ (.slice b2 m.smiths.length q2)).heap.size := by have := (unhide ko).lt; omega
  clear o2 f2 c3 hW hW2
  generalize (w3.setCell ⟨w.heap.size + 1 + 1, 2, none⟩ (.slice b2 m.smiths.length q2)) = W at *
  have hW := hW3
  clear hW3
  refine (toDeskS_any ((unhide Hv).below (unhide BB)).desks (unhide Hs).desks).mono ?_
  rintro e w4 ⟨u3, rfl, hp, hb⟩
  have n3 : Hid (DesksAt (w.heap.size + 3) w4 u3 m.desks) := hide (RecAt.mono hp hW)
  replace n0 := hide ((unhide n0).below hb)
  replace n1 := hide (RecAt.later (unhide n1) hb)
  replace n2 := hide (RecAt.later (unhide n2) hb)
  replace ka := hide ((unhide ka).below hb (unhide ka).lt)
  replace kr := hide ((unhide kr).below hb (unhide kr).lt)
  replace ko := hide ((unhide ko).below hb (unhide ko).lt)
  replace BB := hide ((unhide BB).trans (hb.mono (unhide BB).size))
  have hW2 : w.heap.size + 3 ≤ w4.heap.size := by have := hb.size; omega
  obtain ⟨b3, q3, rfl⟩ := RecAt.shape hp
  clear hp hb
  have o3 := (unhide ko).cell (i := 3) (v := .slice none 0 0) rfl
  have f3 := (unhide ko).free 3
  have c4 := (unhide ka).cell (i := 4) (v := .slice a4 m.paces.length p4) rfl
  go_wp2_with fail
  replace ka : Hid (Blk (w4.setCell ⟨w.heap.size + 1 + 1, 3, none⟩ (.slice b3 m.desks.length q3)) w.heap.size 30 #[.slice a0 m.rooms.length p0, .slice a1 m.guilds.length p1, .slice a2 m.smiths.length p2, .slice a3 m.desks.length p3, .slice a4 m.paces.length p4, .int .i64 m.now]) := hide ((unhide ka).other (a := ⟨w.heap.size + 1 + 1, 3, none⟩) (by show w.heap.size ≠ w.heap.size + 1 + 1; omega) _)
  replace kr : Hid (Blk (w4.setCell ⟨w.heap.size + 1 + 1, 3, none⟩ (.slice b3 m.desks.length q3)) (w.heap.size + 1) 40 #[.slice none 0 0, .slice none 0 0, .slice none 0 0, .slice none 0 0, .slice none 0 0, .int .i64 0]) := hide ((unhide kr).other (a := ⟨w.heap.size + 1 + 1, 3, none⟩) (by show w.heap.size + 1 ≠ w.heap.size + 1 + 1; omega) _)
  replace ko : Hid (Blk (w4.setCell ⟨w.heap.size + 1 + 1, 3, none⟩ (.slice b3 m.desks.length q3)) (w.heap.size + 1 + 1) 40 #[.slice b0 m.rooms.length q0, .slice b1 m.guilds.length q1, .slice b2 m.smiths.length q2, .slice b3 m.desks.length q3, .slice none 0 0, .int .i64 0]) := hide ((unhide ko).set 3 _)
  replace n0 := hide ((unhide n0).set (w.heap.size + 1 + 1) 3 (.slice b3 m.desks.length q3) (by omega))
  replace n1 := hide (RecAt.set_old (unhide n1) (w.heap.size + 1 + 1) 3 (.slice b3 m.desks.length q3) (by omega))
  replace n2 := hide (RecAt.set_old (unhide n2) (w.heap.size + 1 + 1) 3 (.slice b3 m.desks.length q3) (by omega))
  replace n3 := hide (RecAt.set_old (unhide n3) (w.heap.size + 1 + 1) 3 (.slice b3 m.desks.length q3) (by omega))
  replace BB : Hid (Below w.heap.size w (w4.setCell ⟨w.heap.size + 1 + 1, 3, none⟩ (.slice b3 m.desks.length q3))) := hide ((unhide BB).setCell (p := ⟨w.heap.size + 1 + 1, 3, none⟩) (by show w.heap.size ≤ w.heap.size + 1 + 1; omega) _)
  have hW3 : w.heap.size + 3 ≤ (w4.setCell ⟨w.heap.size + 1 + 1, 3, none⟩ (.slice b3 m.desks.length q3)).heap.size := by have := (unhide ko).lt; omega
  clear o3 f3 c4 hW hW2
  generalize (w4.setCell ⟨w.heap.size + 1 + 1, 3, none⟩ (.slice b3 m.desks.length q3)) = W at *
  have hW := hW3
  clear hW3
  refine (toInt64S_any ((unhide Hv).below (unhide BB)).paces (unhide Hs).paces).mono ?_
  rintro e w5 ⟨u4, rfl, hp, hb⟩
  have n4 : Hid (NumsAt (w.heap.size + 3) w5 u4 m.paces) := hide (RecAt.mono hp hW)
  replace n0 := hide ((unhide n0).below hb)
  replace n1 := hide (RecAt.later (unhide n1) hb)
  replace n2 := hide (RecAt.later (unhide n2) hb)
  replace n3 := hide (RecAt.later (unhide n3) hb)
  replace ka := hide ((unhide ka).below hb (unhide ka).lt)
  replace kr := hide ((unhide kr).below hb (unhide kr).lt)
  replace ko := hide ((unhide ko).below hb (unhide ko).lt)
  replace BB := hide ((unhide BB).trans (hb.mono (unhide BB).size))
  have hW2 : w.heap.size + 3 ≤ w5.heap.size := by have := hb.size; omega
  obtain ⟨b4, q4, rfl⟩ := RecAt.shape hp
  clear hp hb
  have o4 := (unhide ko).cell (i := 4) (v := .slice none 0 0) rfl
  have f4 := (unhide ko).free 4
  have o0 := (unhide ko).cell (i := 0) (v := .slice b0 m.rooms.length q0) rfl
  have r0 := (unhide kr).cell (i := 0) (v := .slice none 0 0) rfl
  have rf0 := (unhide kr).free 0
  have o1 := (unhide ko).cell (i := 1) (v := .slice b1 m.guilds.length q1) rfl
  have r1 := (unhide kr).cell (i := 1) (v := .slice none 0 0) rfl
  have rf1 := (unhide kr).free 1
  have o2 := (unhide ko).cell (i := 2) (v := .slice b2 m.smiths.length q2) rfl
  have r2 := (unhide kr).cell (i := 2) (v := .slice none 0 0) rfl
  have rf2 := (unhide kr).free 2
  have o3 := (unhide ko).cell (i := 3) (v := .slice b3 m.desks.length q3) rfl
  have r3 := (unhide kr).cell (i := 3) (v := .slice none 0 0) rfl
  have rf3 := (unhide kr).free 3
  have r4 := (unhide kr).cell (i := 4) (v := .slice none 0 0) rfl
  have rf4 := (unhide kr).free 4
  have o5 := (unhide ko).cell (i := 5) (v := .int .i64 0) rfl
  have r5 := (unhide kr).cell (i := 5) (v := .int .i64 0) rfl
  have rf5 := (unhide kr).free 5
  have f5 := (unhide ko).free 5
  have c5 := (unhide ka).cell (i := 5) (v := .int .i64 m.now) rfl
  go_wp2_with fail
  refine bodyPost_ret (v := .agg #[.slice b0 m.rooms.length q0, .slice b1 m.guilds.length q1, .slice b2 m.smiths.length q2, .slice b3 m.desks.length q3, .slice b4 m.paces.length q4, .int .i64 m.now]) (by simp [results, Tryz.results6, go_sem, r0, r1, r2, r3, r4, r5]) rfl ⟨_, _, _, _, _, rfl, ?_, ?_⟩
  · refine OwnSmy.mono ?_ (show w.heap.size ≤ w.heap.size + 3 by omega)
    iterate 8 (refine OwnSmy.set ?_ _ _ _ (by omega))
    exact ⟨unhide n0, unhide n1, unhide n2, unhide n3, unhide n4⟩
  · iterate 8 (refine Below.setCell ?_ (by first | (show _ ≤ w.heap.size + 1 + 1; omega) | (show _ ≤ w.heap.size + 1; omega)) _)
    exact unhide BB

set_option maxHeartbeats 2000000 in
theorem eqSmithy_yes {w : World} {v0 v1 v2 v3 v4 u0 u1 u2 u3 u4 : Value} {m : SmyV} (h : Smy w v0 v1 v2 v3 v4 m) (k : Smy w u0 u1 u2 u3 u4 m) :
    Calls Tryz.prog 8 #[.agg #[v0, v1, v2, v3, v4, .int .i64 m.now], .agg #[u0, u1, u2, u3, u4, .int .i64 m.now]] w fun e w' => e = .returned (.bool true) ∧ Below w.heap.size w w' := by
  have Hv := hide h
  have Hu := hide k
  obtain ⟨a0, p0, rfl, _, _⟩ := IsRooms.shape h.rooms
  obtain ⟨a1, p1, rfl, hc1, hm1⟩ := IsRec.shape h.guilds
  obtain ⟨a2, p2, rfl, hc2, hm2⟩ := IsRec.shape h.smiths
  obtain ⟨a3, p3, rfl, hc3, hm3⟩ := IsRec.shape h.desks
  obtain ⟨a4, p4, rfl, hc4, hm4⟩ := IsRec.shape h.paces
  obtain ⟨b0, q0, rfl, _, _⟩ := IsRooms.shape k.rooms
  obtain ⟨b1, q1, rfl, _, _⟩ := IsRec.shape k.guilds
  obtain ⟨b2, q2, rfl, _, _⟩ := IsRec.shape k.smiths
  obtain ⟨b3, q3, rfl, _, _⟩ := IsRec.shape k.desks
  obtain ⟨b4, q4, rfl, _, _⟩ := IsRec.shape k.paces
  clear h k
  go_enter Tryz.func8, Tryz.ntmps8
  go_wp2_with fail
  have BB : Hid (Below w.heap.size w ((w.alloc (.cells #[.slice a0 m.rooms.length p0, .slice a1 m.guilds.length p1, .slice a2 m.smiths.length p2, .slice a3 m.desks.length p3, .slice a4 m.paces.length p4, .int .i64 m.now] 40)).alloc (.cells #[.slice b0 m.rooms.length q0, .slice b1 m.guilds.length q1, .slice b2 m.smiths.length q2, .slice b3 m.desks.length q3, .slice b4 m.paces.length q4, .int .i64 m.now] 40))) := hide (((Below.refl _ _).alloc (Nat.le_refl _) _).alloc (by simp) _)
  have ka : Hid (Blk ((w.alloc (.cells #[.slice a0 m.rooms.length p0, .slice a1 m.guilds.length p1, .slice a2 m.smiths.length p2, .slice a3 m.desks.length p3, .slice a4 m.paces.length p4, .int .i64 m.now] 40)).alloc (.cells #[.slice b0 m.rooms.length q0, .slice b1 m.guilds.length q1, .slice b2 m.smiths.length q2, .slice b3 m.desks.length q3, .slice b4 m.paces.length q4, .int .i64 m.now] 40)) w.heap.size 40 #[.slice a0 m.rooms.length p0, .slice a1 m.guilds.length p1, .slice a2 m.smiths.length p2, .slice a3 m.desks.length p3, .slice a4 m.paces.length p4, .int .i64 m.now]) := hide ((Blk.new w _ _).alloc _)
  have kb : Hid (Blk ((w.alloc (.cells #[.slice a0 m.rooms.length p0, .slice a1 m.guilds.length p1, .slice a2 m.smiths.length p2, .slice a3 m.desks.length p3, .slice a4 m.paces.length p4, .int .i64 m.now] 40)).alloc (.cells #[.slice b0 m.rooms.length q0, .slice b1 m.guilds.length q1, .slice b2 m.smiths.length q2, .slice b3 m.desks.length q3, .slice b4 m.paces.length q4, .int .i64 m.now] 40)) (w.heap.size + 1) 40 #[.slice b0 m.rooms.length q0, .slice b1 m.guilds.length q1, .slice b2 m.smiths.length q2, .slice b3 m.desks.length q3, .slice b4 m.paces.length q4, .int .i64 m.now]) := hide (by
    have k := Blk.new (w.alloc (.cells #[.slice a0 m.rooms.length p0, .slice a1 m.guilds.length p1, .slice a2 m.smiths.length p2, .slice a3 m.desks.length p3, .slice a4 m.paces.length p4, .int .i64 m.now] 40)) 40 #[.slice b0 m.rooms.length q0, .slice b1 m.guilds.length q1, .slice b2 m.smiths.length q2, .slice b3 m.desks.length q3, .slice b4 m.paces.length q4, .int .i64 m.now]
    rw [World.size_alloc] at k
    exact k)
  generalize (w.alloc (.cells #[.slice a0 m.rooms.length p0, .slice a1 m.guilds.length p1, .slice a2 m.smiths.length p2, .slice a3 m.desks.length p3, .slice a4 m.paces.length p4, .int .i64 m.now] 40)).alloc (.cells #[.slice b0 m.rooms.length q0, .slice b1 m.guilds.length q1, .slice b2 m.smiths.length q2, .slice b3 m.desks.length q3, .slice b4 m.paces.length q4, .int .i64 m.now] 40) = W at *
  refine (eqHall_yes ((unhide Hv).below (unhide BB)).rooms ((unhide Hu).below (unhide BB)).rooms).mono ?_
  rintro e w1 ⟨rfl, hb⟩
  replace ka := hide ((unhide ka).below hb (unhide ka).lt)
  replace kb := hide ((unhide kb).below hb (unhide kb).lt)
  replace BB := hide ((unhide BB).trans (hb.mono (unhide BB).size))
  clear hb
  have c1 := (unhide ka).cell (i := 1) (v := .slice a1 m.guilds.length p1) rfl
  have d1 := (unhide kb).cell (i := 1) (v := .slice b1 m.guilds.length q1) rfl
  go_wp2_with fail
  clear c1 d1
  refine (eqGuildS_yes ((unhide Hv).below (unhide BB)).guilds ((unhide Hu).below (unhide BB)).guilds).mono ?_
  rintro e w2 ⟨rfl, hb⟩
  replace ka := hide ((unhide ka).below hb (unhide ka).lt)
  replace kb := hide ((unhide kb).below hb (unhide kb).lt)
  replace BB := hide ((unhide BB).trans (hb.mono (unhide BB).size))
  clear hb
  have c2 := (unhide ka).cell (i := 2) (v := .slice a2 m.smiths.length p2) rfl
  have d2 := (unhide kb).cell (i := 2) (v := .slice b2 m.smiths.length q2) rfl
  go_wp2_with fail
  clear c2 d2
  refine (eqSmithS_yes ((unhide Hv).below (unhide BB)).smiths ((unhide Hu).below (unhide BB)).smiths).mono ?_
  rintro e w3 ⟨rfl, hb⟩
  replace ka := hide ((unhide ka).below hb (unhide ka).lt)
  replace kb := hide ((unhide kb).below hb (unhide kb).lt)
  replace BB := hide ((unhide BB).trans (hb.mono (unhide BB).size))
  clear hb
  have c3 := (unhide ka).cell (i := 3) (v := .slice a3 m.desks.length p3) rfl
  have d3 := (unhide kb).cell (i := 3) (v := .slice b3 m.desks.length q3) rfl
  go_wp2_with fail
  clear c3 d3
  refine (eqDeskS_yes ((unhide Hv).below (unhide BB)).desks ((unhide Hu).below (unhide BB)).desks).mono ?_
  rintro e w4 ⟨rfl, hb⟩
  replace ka := hide ((unhide ka).below hb (unhide ka).lt)
  replace kb := hide ((unhide kb).below hb (unhide kb).lt)
  replace BB := hide ((unhide BB).trans (hb.mono (unhide BB).size))
  clear hb
  have c4 := (unhide ka).cell (i := 4) (v := .slice a4 m.paces.length p4) rfl
  have d4 := (unhide kb).cell (i := 4) (v := .slice b4 m.paces.length q4) rfl
  go_wp2_with fail
  clear c4 d4
  refine (eqNums_yes ((unhide Hv).below (unhide BB)).paces ((unhide Hu).below (unhide BB)).paces).mono ?_
  rintro e w5 ⟨rfl, hb⟩
  replace ka := hide ((unhide ka).below hb (unhide ka).lt)
  replace kb := hide ((unhide kb).below hb (unhide kb).lt)
  replace BB := hide ((unhide BB).trans (hb.mono (unhide BB).size))
  clear hb
  have c5 := (unhide ka).cell (i := 5) (v := .int .i64 m.now) rfl
  have d5 := (unhide kb).cell (i := 5) (v := .int .i64 m.now) rfl
  go_wp2_with fail
  go_ret
  exact ⟨rfl, unhide BB⟩

end Go.Proofs.YtffcgajndmhpkaaGreat

/- The model's copy of a smithy (l11Copy): it reads as the smithy does, in memory of the call's own, no two rows of it in one block. Conditions: the smithy can be read; nothing in it is longer than a thousand. -/
namespace Go.Proofs.YtffcgajndmhpkaaGreat
open Go.ChangeShapes Go.WideShapes Go.ChangeAt Go.RowKit Go.Sort
set_option linter.unusedVariables false

theorem tyN : RecTy 2 1 (.int .i64 0) encNum := ⟨by kernel_rfl, rfl, encNum_len, by omega, by omega, fun x u hu => by
  simp only [encNum, List.mem_cons, List.not_mem_nil, or_false] at hu
  rcases hu with rfl <;> rfl⟩

end Go.Proofs.YtffcgajndmhpkaaGreat

