/- What the proof rests on, part 5: lists and numbers, how they lie in memory, and contracts of the calls. No condition but those that a theorem names. -/
import Derived.Test.YthbbahagpmdooaaGreatDoorXr01
import Derived.Test.YthbbahagpmdooaaGreatDoorXr02
import Derived.Test.YthbbahagpmdooaaGreatDoorXr03
import Derived.Test.YthbbahagpmdooaaGreatDoorXr04
import Derived.WalkKit
import Derived.ProofKit
import Derived.OpenShut
import Derived.Outline
import Derived.Deep.RegionWith
import Derived.Deep.QuietTactic
import Derived.BigQuiet
import Derived.Laws.OwnMore
import Derived.OwnWalk
import Derived.Maps.AppendAt
import Derived.Lib.QuietBelow
import Derived.Lib.SmallJoins
import Derived.Deep.Fields
import Derived.Deep.Slices
/- A smithy that the call made, no two rows of it in one block; the laws' copy of a smithy is such a one. Conditions: the slices can be read; what is copied is no longer than 2^20. -/
namespace Go.Proofs.YthbbahagpmdooaaGreatDoor
open Go.ChangeShapes Go.WideShapes Go.ChangeAt Go.RowKit Go.Sort
set_option linter.unusedVariables false

/-- Two slices lie in different blocks. -/
def Off2 (u v : Value) : Prop := ∀ b, u.ownBlock = some b → v.ownBlock ≠ some b
theorem Off2.symm {u v : Value} (h : Off2 u v) : Off2 v u := fun b e e' => h b e' e
/-- No block of u is one of the hall's. -/
def OffHall (u v : Value) (qs : List (RoomV × Value)) : Prop := Off2 u v ∧ ∀ q ∈ qs, Off2 u q.2
structure FullSmy (n₀ : Nat) (w : World) (v0 v1 v2 v3 v4 : Value) (m : SmyV) (qs : List (RoomV × Value)) : Prop where
  hall : OwnHall n₀ w v0 qs
  rooms : qs.map (·.1) = m.rooms
  guilds : GuildsAt n₀ w v1 m.guilds
  smiths : SmithsAt n₀ w v2 m.smiths
  desks : DesksAt n₀ w v3 m.desks
  paces : NumsAt n₀ w v4 m.paces
  h1 : OffHall v1 v0 qs
  h2 : OffHall v2 v0 qs
  h3 : OffHall v3 v0 qs
  h4 : OffHall v4 v0 qs
  a12 : Off2 v1 v2
  a13 : Off2 v1 v3
  a14 : Off2 v1 v4
  a23 : Off2 v2 v3
  a24 : Off2 v2 v4
  a34 : Off2 v3 v4
theorem FullSmy.smy {n₀ : Nat} {w : World} {v0 v1 v2 v3 v4 : Value} {m : SmyV} {qs : List (RoomV × Value)} (h : FullSmy n₀ w v0 v1 v2 v3 v4 m qs) : Smy w v0 v1 v2 v3 v4 m :=
  ⟨by rw [← h.rooms]; exact h.hall.rooms, h.guilds.list, h.smiths.list, h.desks.list, h.paces.list⟩
theorem OwnHall.set_old {n₀ : Nat} {w : World} {v : Value} {qs : List (RoomV × Value)} (h : OwnHall n₀ w v qs) (g o : Nat) (u : Value) (hg : g < n₀) : OwnHall n₀ (w.setCell ⟨g, o, none⟩ u) v qs :=
  h.same fun k h0 hk => heap_setCell_other w _ k u (by show k ≠ g; omega)
theorem FullSmy.below {n₀ : Nat} {w w' : World} {v0 v1 v2 v3 v4 : Value} {m : SmyV} {qs : List (RoomV × Value)} (h : FullSmy n₀ w v0 v1 v2 v3 v4 m qs) (hb : Below w.heap.size w w') : FullSmy n₀ w' v0 v1 v2 v3 v4 m qs :=
  ⟨h.hall.later hb, h.rooms, RecAt.later h.guilds hb, RecAt.later h.smiths hb, RecAt.later h.desks hb, RecAt.later h.paces hb, h.h1, h.h2, h.h3, h.h4, h.a12, h.a13, h.a14, h.a23, h.a24, h.a34⟩
theorem FullSmy.set {n₀ : Nat} {w : World} {v0 v1 v2 v3 v4 : Value} {m : SmyV} {qs : List (RoomV × Value)} (h : FullSmy n₀ w v0 v1 v2 v3 v4 m qs) (g o : Nat) (u : Value) (hg : g < n₀) : FullSmy n₀ (w.setCell ⟨g, o, none⟩ u) v0 v1 v2 v3 v4 m qs :=
  ⟨h.hall.set_old g o u hg, h.rooms, RecAt.set_old h.guilds g o u hg, RecAt.set_old h.smiths g o u hg, RecAt.set_old h.desks g o u hg, RecAt.set_old h.paces g o u hg, h.h1, h.h2, h.h3, h.h4, h.a12, h.a13, h.a14, h.a23, h.a24, h.a34⟩
theorem FullSmy.mono {n₀ n₁ : Nat} {w : World} {v0 v1 v2 v3 v4 : Value} {m : SmyV} {qs : List (RoomV × Value)} (h : FullSmy n₀ w v0 v1 v2 v3 v4 m qs) (hn : n₁ ≤ n₀) : FullSmy n₁ w v0 v1 v2 v3 v4 m qs :=
  ⟨h.hall.mono hn, h.rooms, RecAt.mono h.guilds hn, RecAt.mono h.smiths hn, RecAt.mono h.desks hn, RecAt.mono h.paces hn, h.h1, h.h2, h.h3, h.h4, h.a12, h.a13, h.a14, h.a23, h.a24, h.a34⟩
/-- One lies below a number, the other one not. -/
theorem off_of {u v : Value} {k : Nat} (hu : ∀ b, u.ownBlock = some b → k ≤ b) (hv : ∀ b, v.ownBlock = some b → b < k) : Off2 u v := fun b e e' => by have := hu b e; have := hv b e'; omega

set_option maxHeartbeats 2000000 in
theorem toHall_full {w : World} {v : Value} {rs : List RoomV} (h : IsRooms w v rs) (hs : Small rs) :
    Calls Tryz.prog 74 #[.agg #[v]] w fun e w' => ∃ v' qs, e = .returned (.agg #[v']) ∧ qs.map (·.1) = rs ∧ OwnHall w.heap.size w' v' qs ∧ Below w.heap.size w w' := by
  have Hv := hide h
  obtain ⟨a, cap, rfl, hc, hm, hr⟩ := h
  clear hr
  have Hb0 : Hid (∀ o1 o2 o3 : Obj, Below w.heap.size w (((w.alloc o1).alloc o2).alloc o3)) := hide (fun o1 o2 o3 => (((Below.refl _ _).alloc (Nat.le_refl _) _).alloc (by simp) _).alloc (by simp; omega) _)
  go_enter Tryz.func74, Tryz.ntmps74
  go_wp2_with fail
  refine (toRoomS_own ((unhide Hv).below (unhide Hb0 _ _ _)) hs).mono ?_
  rintro e w1 ⟨v', qs, rfl, hmap, hp, hb1⟩
  simp only [World.size_alloc] at hp
  have hsz : w.heap.size + 3 ≤ w1.heap.size := by have := hb1.size; simp at this; omega
  obtain ⟨cc, ff⟩ := bcell hb1
  have x0 := cc (w.heap.size + 2) 0 (by simp)
  have y0 := cc (w.heap.size + 1) 0 (by simp)
  have fx0 := ff (w.heap.size + 2) 0 (by simp)
  have fy0 := ff (w.heap.size + 1) 0 (by simp)
  have Hp := hide hp
  have Hb1 := hide hb1
  obtain ⟨a', cap', rfl⟩ := hp.shape
  have hql : qs.length = rs.length := by rw [← hmap, List.length_map]
  have Hmap := hide hmap
  rw [hql] at Hp ⊢
  clear hp hmap hql
  clear cc ff hb1
  go_wp2_with fail
  have B1 : Below w.heap.size w w1 := (unhide Hb0 _ _ _).trans ((unhide Hb1).mono (by simp; omega))
  refine bodyPost_ret (v := .agg #[.slice a' rs.length cap']) (by simp [results, Tryz.results74, go_sem, *]) rfl ⟨_, qs, rfl, unhide Hmap, ?_, ?_⟩
  · exact (((unhide Hp).set_old _ _ _ (by omega)).set_old _ _ _ (by omega)).mono (by omega)
  · exact (B1.setCell (by show _ ≤ w.heap.size + 1 + 1; omega) _).setCell (by show _ ≤ w.heap.size + 1; omega) _

set_option maxRecDepth 100000 in
set_option maxHeartbeats 4000000 in
theorem toSmithy_full {w : World} {v0 v1 v2 v3 v4 : Value} {m : SmyV} (h : Smy w v0 v1 v2 v3 v4 m) (hs : SmySmall m) :
    Calls Tryz.prog 30 #[.agg #[v0, v1, v2, v3, v4, .int .i64 m.now]] w fun e w' => ∃ u0 u1 u2 u3 u4 qs, e = .returned (.agg #[u0, u1, u2, u3, u4, .int .i64 m.now]) ∧ FullSmy w.heap.size w' u0 u1 u2 u3 u4 m qs ∧ Below w.heap.size w w' := by
  have Hv := hide h
  have Hs := hide hs
  obtain ⟨a0, p0, rfl, _, _⟩ := IsRooms.shape h.rooms
  obtain ⟨a1, p1, rfl, hc1, hm1⟩ := IsRec.shape h.guilds
  obtain ⟨a2, p2, rfl, hc2, hm2⟩ := IsRec.shape h.smiths
  obtain ⟨a3, p3, rfl, hc3, hm3⟩ := IsRec.shape h.desks
  obtain ⟨a4, p4, rfl, hc4, hm4⟩ := IsRec.shape h.paces
  clear h hs
  go_enter Tryz.func30, Tryz.ntmps30
  go_wp2_with fail
  have BB : Hid (Below w.heap.size w (((w.alloc (.cells #[.slice a0 m.rooms.length p0, .slice a1 m.guilds.length p1, .slice a2 m.smiths.length p2, .slice a3 m.desks.length p3, .slice a4 m.paces.length p4, .int .i64 m.now] 55)).alloc (.cells #[.slice none 0 0, .slice none 0 0, .slice none 0 0, .slice none 0 0, .slice none 0 0, .int .i64 0] 32)).alloc (.cells #[.slice none 0 0, .slice none 0 0, .slice none 0 0, .slice none 0 0, .slice none 0 0, .int .i64 0] 32))) := hide ((((Below.refl _ _).alloc (Nat.le_refl _) _).alloc (by simp) _).alloc (by simp; omega) _)
  have ka : Hid (Blk (((w.alloc (.cells #[.slice a0 m.rooms.length p0, .slice a1 m.guilds.length p1, .slice a2 m.smiths.length p2, .slice a3 m.desks.length p3, .slice a4 m.paces.length p4, .int .i64 m.now] 55)).alloc (.cells #[.slice none 0 0, .slice none 0 0, .slice none 0 0, .slice none 0 0, .slice none 0 0, .int .i64 0] 32)).alloc (.cells #[.slice none 0 0, .slice none 0 0, .slice none 0 0, .slice none 0 0, .slice none 0 0, .int .i64 0] 32)) w.heap.size 55 #[.slice a0 m.rooms.length p0, .slice a1 m.guilds.length p1, .slice a2 m.smiths.length p2, .slice a3 m.desks.length p3, .slice a4 m.paces.length p4, .int .i64 m.now]) := hide (((Blk.new w _ _).alloc _).alloc _)
  have kr : Hid (Blk (((w.alloc (.cells #[.slice a0 m.rooms.length p0, .slice a1 m.guilds.length p1, .slice a2 m.smiths.length p2, .slice a3 m.desks.length p3, .slice a4 m.paces.length p4, .int .i64 m.now] 55)).alloc (.cells #[.slice none 0 0, .slice none 0 0, .slice none 0 0, .slice none 0 0, .slice none 0 0, .int .i64 0] 32)).alloc (.cells #[.slice none 0 0, .slice none 0 0, .slice none 0 0, .slice none 0 0, .slice none 0 0, .int .i64 0] 32)) (w.heap.size + 1) 32 #[.slice none 0 0, .slice none 0 0, .slice none 0 0, .slice none 0 0, .slice none 0 0, .int .i64 0]) := hide (by
    have k := Blk.new (w.alloc (.cells #[.slice a0 m.rooms.length p0, .slice a1 m.guilds.length p1, .slice a2 m.smiths.length p2, .slice a3 m.desks.length p3, .slice a4 m.paces.length p4, .int .i64 m.now] 55)) 32 #[.slice none 0 0, .slice none 0 0, .slice none 0 0, .slice none 0 0, .slice none 0 0, .int .i64 0]
    rw [World.size_alloc] at k
    exact k.alloc _)
  have ko : Hid (Blk (((w.alloc (.cells #[.slice a0 m.rooms.length p0, .slice a1 m.guilds.length p1, .slice a2 m.smiths.length p2, .slice a3 m.desks.length p3, .slice a4 m.paces.length p4, .int .i64 m.now] 55)).alloc (.cells #[.slice none 0 0, .slice none 0 0, .slice none 0 0, .slice none 0 0, .slice none 0 0, .int .i64 0] 32)).alloc (.cells #[.slice none 0 0, .slice none 0 0, .slice none 0 0, .slice none 0 0, .slice none 0 0, .int .i64 0] 32)) (w.heap.size + 1 + 1) 32 #[.slice none 0 0, .slice none 0 0, .slice none 0 0, .slice none 0 0, .slice none 0 0, .int .i64 0]) := hide (by
    have k := Blk.new ((w.alloc (.cells #[.slice a0 m.rooms.length p0, .slice a1 m.guilds.length p1, .slice a2 m.smiths.length p2, .slice a3 m.desks.length p3, .slice a4 m.paces.length p4, .int .i64 m.now] 55)).alloc (.cells #[.slice none 0 0, .slice none 0 0, .slice none 0 0, .slice none 0 0, .slice none 0 0, .int .i64 0] 32)) 32 #[.slice none 0 0, .slice none 0 0, .slice none 0 0, .slice none 0 0, .slice none 0 0, .int .i64 0]
    rw [World.size_alloc, World.size_alloc] at k
    exact k)
  generalize ((w.alloc (.cells #[.slice a0 m.rooms.length p0, .slice a1 m.guilds.length p1, .slice a2 m.smiths.length p2, .slice a3 m.desks.length p3, .slice a4 m.paces.length p4, .int .i64 m.now] 55)).alloc (.cells #[.slice none 0 0, .slice none 0 0, .slice none 0 0, .slice none 0 0, .slice none 0 0, .int .i64 0] 32)).alloc (.cells #[.slice none 0 0, .slice none 0 0, .slice none 0 0, .slice none 0 0, .slice none 0 0, .int .i64 0] 32) = W at *
  have hW : w.heap.size + 3 ≤ W.heap.size := by have := (unhide ko).lt; omega
  refine (toHall_full ((unhide Hv).below (unhide BB)).rooms (unhide Hs).rooms).mono ?_
  rintro e w1 ⟨u0, qs, rfl, hmap, hp, hb⟩
  have Hmap := hide hmap
  clear hmap
  have n0 : Hid (OwnHall (w.heap.size + 3) w1 u0 qs) := hide (hp.mono hW)
  replace ka := hide ((unhide ka).below hb (unhide ka).lt)
  replace kr := hide ((unhide kr).below hb (unhide kr).lt)
  replace ko := hide ((unhide ko).below hb (unhide ko).lt)
  replace BB := hide ((unhide BB).trans (hb.mono (unhide BB).size))
  have hW2 : w.heap.size + 3 ≤ w1.heap.size := by have := hb.size; omega
  obtain ⟨b0, q0, rfl⟩ := hp.shape
  have hql : qs.length = m.rooms.length := by rw [← unhide Hmap, List.length_map]
  rw [hql] at n0 ⊢
  have L0 : Hid (∀ b, ((Value.slice b0 m.rooms.length q0).ownBlock = some b ∨ ∃ q ∈ qs, q.2.ownBlock = some b) → b < w1.heap.size) := hide (fun b e => ((unhide n0).lt e).2)
  clear hp hql
  obtain ⟨s0, hs0⟩ : ∃ s, s = w1.heap.size := ⟨_, rfl⟩
  rw [← hs0] at L0
  have g0 : s0 ≤ w1.heap.size := Nat.le_of_eq hs0
  clear hs0
  clear hb
  have o0 := (unhide ko).cell (i := 0) (v := .slice none 0 0) rfl
  have f0 := (unhide ko).free 0
  have c1 := (unhide ka).cell (i := 1) (v := .slice a1 m.guilds.length p1) rfl
  go_wp2_with fail
  replace ka : Hid (Blk (w1.setCell ⟨w.heap.size + 1 + 1, 0, none⟩ (.slice b0 m.rooms.length q0)) w.heap.size 55 #[.slice a0 m.rooms.length p0, .slice a1 m.guilds.length p1, .slice a2 m.smiths.length p2, .slice a3 m.desks.length p3, .slice a4 m.paces.length p4, .int .i64 m.now]) := hide ((unhide ka).other (a := ⟨w.heap.size + 1 + 1, 0, none⟩) (by show w.heap.size ≠ w.heap.size + 1 + 1; omega) _)
  replace kr : Hid (Blk (w1.setCell ⟨w.heap.size + 1 + 1, 0, none⟩ (.slice b0 m.rooms.length q0)) (w.heap.size + 1) 32 #[.slice none 0 0, .slice none 0 0, .slice none 0 0, .slice none 0 0, .slice none 0 0, .int .i64 0]) := hide ((unhide kr).other (a := ⟨w.heap.size + 1 + 1, 0, none⟩) (by show w.heap.size + 1 ≠ w.heap.size + 1 + 1; omega) _)
  replace ko : Hid (Blk (w1.setCell ⟨w.heap.size + 1 + 1, 0, none⟩ (.slice b0 m.rooms.length q0)) (w.heap.size + 1 + 1) 32 #[.slice b0 m.rooms.length q0, .slice none 0 0, .slice none 0 0, .slice none 0 0, .slice none 0 0, .int .i64 0]) := hide ((unhide ko).set 0 _)
  replace n0 := hide ((unhide n0).set_old (w.heap.size + 1 + 1) 0 (.slice b0 m.rooms.length q0) (by omega))
  replace BB : Hid (Below w.heap.size w (w1.setCell ⟨w.heap.size + 1 + 1, 0, none⟩ (.slice b0 m.rooms.length q0))) := hide ((unhide BB).setCell (p := ⟨w.heap.size + 1 + 1, 0, none⟩) (by show w.heap.size ≤ w.heap.size + 1 + 1; omega) _)
  have hW3 : w.heap.size + 3 ≤ (w1.setCell ⟨w.heap.size + 1 + 1, 0, none⟩ (.slice b0 m.rooms.length q0)).heap.size := by have := (unhide ko).lt; omega
  replace g0 : s0 ≤ (w1.setCell ⟨w.heap.size + 1 + 1, 0, none⟩ (.slice b0 m.rooms.length q0)).heap.size := by simpa using g0
  clear o0 f0 c1 hW hW2
  generalize (w1.setCell ⟨w.heap.size + 1 + 1, 0, none⟩ (.slice b0 m.rooms.length q0)) = W at *
  have hW := hW3
  clear hW3
  refine (toGuildS_any ((unhide Hv).below (unhide BB)).guilds (unhide Hs).guilds).mono ?_
  rintro e w2 ⟨u1, rfl, hp, hb⟩
  have n1 : Hid (GuildsAt (w.heap.size + 3) w2 u1 m.guilds) := hide (RecAt.mono hp hW)
  replace n0 := hide ((unhide n0).later hb)
  replace ka := hide ((unhide ka).below hb (unhide ka).lt)
  replace kr := hide ((unhide kr).below hb (unhide kr).lt)
  replace ko := hide ((unhide ko).below hb (unhide ko).lt)
  replace BB := hide ((unhide BB).trans (hb.mono (unhide BB).size))
  have hW2 : w.heap.size + 3 ≤ w2.heap.size := by have := hb.size; omega
  obtain ⟨b1, q1, rfl⟩ := RecAt.shape hp
  have M1 : Hid (∀ b, (Value.slice b1 m.guilds.length q1).ownBlock = some b → s0 ≤ b ∧ b < w2.heap.size) := hide (fun b e => ⟨Nat.le_trans g0 (RecAt.lt hp e).1, (RecAt.lt hp e).2⟩)
  obtain ⟨s1, hs1⟩ : ∃ s, s = w2.heap.size := ⟨_, rfl⟩
  rw [← hs1] at M1
  have r1z : s0 ≤ s1 := by have := hb.size; omega
  clear g0
  have g1 : s1 ≤ w2.heap.size := Nat.le_of_eq hs1
  clear hs1
  clear hp hb
  have o1 := (unhide ko).cell (i := 1) (v := .slice none 0 0) rfl
  have f1 := (unhide ko).free 1
  have c2 := (unhide ka).cell (i := 2) (v := .slice a2 m.smiths.length p2) rfl
  go_wp2_with fail
  replace ka : Hid (Blk (w2.setCell ⟨w.heap.size + 1 + 1, 1, none⟩ (.slice b1 m.guilds.length q1)) w.heap.size 55 #[.slice a0 m.rooms.length p0, .slice a1 m.guilds.length p1, .slice a2 m.smiths.length p2, .slice a3 m.desks.length p3, .slice a4 m.paces.length p4, .int .i64 m.now]) := hide ((unhide ka).other (a := ⟨w.heap.size + 1 + 1, 1, none⟩) (by show w.heap.size ≠ w.heap.size + 1 + 1; omega) _)
  replace kr : Hid (Blk (w2.setCell ⟨w.heap.size + 1 + 1, 1, none⟩ (.slice b1 m.guilds.length q1)) (w.heap.size + 1) 32 #[.slice none 0 0, .slice none 0 0, .slice none 0 0, .slice none 0 0, .slice none 0 0, .int .i64 0]) := hide ((unhide kr).other (a := ⟨w.heap.size + 1 + 1, 1, none⟩) (by show w.heap.size + 1 ≠ w.heap.size + 1 + 1; omega) _)
  replace ko : Hid (Blk (w2.setCell ⟨w.heap.size + 1 + 1, 1, none⟩ (.slice b1 m.guilds.length q1)) (w.heap.size + 1 + 1) 32 #[.slice b0 m.rooms.length q0, .slice b1 m.guilds.length q1, .slice none 0 0, .slice none 0 0, .slice none 0 0, .int .i64 0]) := hide ((unhide ko).set 1 _)
  replace n0 := hide ((unhide n0).set_old (w.heap.size + 1 + 1) 1 (.slice b1 m.guilds.length q1) (by omega))
  replace n1 := hide (RecAt.set_old (unhide n1) (w.heap.size + 1 + 1) 1 (.slice b1 m.guilds.length q1) (by omega))
  replace BB : Hid (Below w.heap.size w (w2.setCell ⟨w.heap.size + 1 + 1, 1, none⟩ (.slice b1 m.guilds.length q1))) := hide ((unhide BB).setCell (p := ⟨w.heap.size + 1 + 1, 1, none⟩) (by show w.heap.size ≤ w.heap.size + 1 + 1; omega) _)
  have hW3 : w.heap.size + 3 ≤ (w2.setCell ⟨w.heap.size + 1 + 1, 1, none⟩ (.slice b1 m.guilds.length q1)).heap.size := by have := (unhide ko).lt; omega
  replace g1 : s1 ≤ (w2.setCell ⟨w.heap.size + 1 + 1, 1, none⟩ (.slice b1 m.guilds.length q1)).heap.size := by simpa using g1
  clear o1 f1 c2 hW hW2
  generalize (w2.setCell ⟨w.heap.size + 1 + 1, 1, none⟩ (.slice b1 m.guilds.length q1)) = W at *
  have hW := hW3
  clear hW3
  refine (toSmithS_any ((unhide Hv).below (unhide BB)).smiths (unhide Hs).smiths).mono ?_
  rintro e w3 ⟨u2, rfl, hp, hb⟩
  have n2 : Hid (SmithsAt (w.heap.size + 3) w3 u2 m.smiths) := hide (RecAt.mono hp hW)
  replace n0 := hide ((unhide n0).later hb)
  replace n1 := hide (RecAt.later (unhide n1) hb)
  replace ka := hide ((unhide ka).below hb (unhide ka).lt)
  replace kr := hide ((unhide kr).below hb (unhide kr).lt)
  replace ko := hide ((unhide ko).below hb (unhide ko).lt)
  replace BB := hide ((unhide BB).trans (hb.mono (unhide BB).size))
  have hW2 : w.heap.size + 3 ≤ w3.heap.size := by have := hb.size; omega
  obtain ⟨b2, q2, rfl⟩ := RecAt.shape hp
  have M2 : Hid (∀ b, (Value.slice b2 m.smiths.length q2).ownBlock = some b → s1 ≤ b ∧ b < w3.heap.size) := hide (fun b e => ⟨Nat.le_trans g1 (RecAt.lt hp e).1, (RecAt.lt hp e).2⟩)
  obtain ⟨s2, hs2⟩ : ∃ s, s = w3.heap.size := ⟨_, rfl⟩
  rw [← hs2] at M2
  have r2z : s1 ≤ s2 := by have := hb.size; omega
  clear g1
  have g2 : s2 ≤ w3.heap.size := Nat.le_of_eq hs2
  clear hs2
  clear hp hb
  have o2 := (unhide ko).cell (i := 2) (v := .slice none 0 0) rfl
  have f2 := (unhide ko).free 2
  have c3 := (unhide ka).cell (i := 3) (v := .slice a3 m.desks.length p3) rfl
  go_wp2_with fail
  replace ka : Hid (Blk (w3.setCell ⟨w.heap.size + 1 + 1, 2, none⟩ (.slice b2 m.smiths.length q2)) w.heap.size 55 #[.slice a0 m.rooms.length p0, .slice a1 m.guilds.length p1, .slice a2 m.smiths.length p2, .slice a3 m.desks.length p3, .slice a4 m.paces.length p4, .int .i64 m.now]) := hide ((unhide ka).other (a := ⟨w.heap.size + 1 + 1, 2, none⟩) (by show w.heap.size ≠ w.heap.size + 1 + 1; omega) _)
  replace kr : Hid (Blk (w3.setCell ⟨w.heap.size + 1 + 1, 2, none⟩ (.slice b2 m.smiths.length q2)) (w.heap.size + 1) 32 #[.slice none 0 0, .slice none 0 0, .slice none 0 0, .slice none 0 0, .slice none 0 0, .int .i64 0]) := hide ((unhide kr).other (a := ⟨w.heap.size + 1 + 1, 2, none⟩) (by show w.heap.size + 1 ≠ w.heap.size + 1 + 1; omega) _)
  replace ko : Hid (Blk (w3.setCell ⟨w.heap.size + 1 + 1, 2, none⟩ (.slice b2 m.smiths.length q2)) (w.heap.size + 1 + 1) 32 #[.slice b0 m.rooms.length q0, .slice b1 m.guilds.length q1, .slice b2 m.smiths.length q2, .slice none 0 0, .slice none 0 0, .int .i64 0]) := hide ((unhide ko).set 2 _)
  replace n0 := hide ((unhide n0).set_old (w.heap.size + 1 + 1) 2 (.slice b2 m.smiths.length q2) (by omega))
  replace n1 := hide (RecAt.set_old (unhide n1) (w.heap.size + 1 + 1) 2 (.slice b2 m.smiths.length q2) (by omega))
  replace n2 := hide (RecAt.set_old (unhide n2) (w.heap.size + 1 + 1) 2 (.slice b2 m.smiths.length q2) (by omega))
  replace BB : Hid (Below w.heap.size w (w3.setCell ⟨w.heap.size + 1 + 1, 2, none⟩ (.slice b2 m.smiths.length q2))) := hide ((unhide BB).setCell (p := ⟨w.heap.size + 1 + 1, 2, none⟩) (by show w.heap.size ≤ w.heap.size + 1 + 1; omega) _)
  have hW3 : w.heap.size + 3 ≤ (w3.setCell ⟨w.heap.size + 1 + 1, 2, none⟩ (.slice b2 m.smiths.length q2)).heap.size := by have := (unhide ko).lt; omega
  replace g2 : s2 ≤ (w3.setCell ⟨w.heap.size + 1 + 1, 2, none⟩ (.slice b2 m.smiths.length q2)).heap.size := by simpa using g2
  clear o2 f2 c3 hW hW2
  generalize (w3.setCell ⟨w.heap.size + 1 + 1, 2, none⟩ (.slice b2 m.smiths.length q2)) = W at *
  have hW := hW3
  clear hW3
  refine (toDeskS_any ((unhide Hv).below (unhide BB)).desks (unhide Hs).desks).mono ?_
  rintro e w4 ⟨u3, rfl, hp, hb⟩
  have n3 : Hid (DesksAt (w.heap.size + 3) w4 u3 m.desks) := hide (RecAt.mono hp hW)
  replace n0 := hide ((unhide n0).later hb)
  replace n1 := hide (RecAt.later (unhide n1) hb)
  replace n2 := hide (RecAt.later (unhide n2) hb)
  replace ka := hide ((unhide ka).below hb (unhide ka).lt)
  replace kr := hide ((unhide kr).below hb (unhide kr).lt)
  replace ko := hide ((unhide ko).below hb (unhide ko).lt)
  replace BB := hide ((unhide BB).trans (hb.mono (unhide BB).size))
  have hW2 : w.heap.size + 3 ≤ w4.heap.size := by have := hb.size; omega
  obtain ⟨b3, q3, rfl⟩ := RecAt.shape hp
  have M3 : Hid (∀ b, (Value.slice b3 m.desks.length q3).ownBlock = some b → s2 ≤ b ∧ b < w4.heap.size) := hide (fun b e => ⟨Nat.le_trans g2 (RecAt.lt hp e).1, (RecAt.lt hp e).2⟩)
  obtain ⟨s3, hs3⟩ : ∃ s, s = w4.heap.size := ⟨_, rfl⟩
  rw [← hs3] at M3
  have r3z : s2 ≤ s3 := by have := hb.size; omega
  clear g2
  have g3 : s3 ≤ w4.heap.size := Nat.le_of_eq hs3
  clear hs3
  clear hp hb
  have o3 := (unhide ko).cell (i := 3) (v := .slice none 0 0) rfl
  have f3 := (unhide ko).free 3
  have c4 := (unhide ka).cell (i := 4) (v := .slice a4 m.paces.length p4) rfl
  go_wp2_with fail
  replace ka : Hid (Blk (w4.setCell ⟨w.heap.size + 1 + 1, 3, none⟩ (.slice b3 m.desks.length q3)) w.heap.size 55 #[.slice a0 m.rooms.length p0, .slice a1 m.guilds.length p1, .slice a2 m.smiths.length p2, .slice a3 m.desks.length p3, .slice a4 m.paces.length p4, .int .i64 m.now]) := hide ((unhide ka).other (a := ⟨w.heap.size + 1 + 1, 3, none⟩) (by show w.heap.size ≠ w.heap.size + 1 + 1; omega) _)
  replace kr : Hid (Blk (w4.setCell ⟨w.heap.size + 1 + 1, 3, none⟩ (.slice b3 m.desks.length q3)) (w.heap.size + 1) 32 #[.slice none 0 0, .slice none 0 0, .slice none 0 0, .slice none 0 0, .slice none 0 0, .int .i64 0]) := hide ((unhide kr).other (a := ⟨w.heap.size + 1 + 1, 3, none⟩) (by show w.heap.size + 1 ≠ w.heap.size + 1 + 1; omega) _)
  replace ko : Hid (Blk (w4.setCell ⟨w.heap.size + 1 + 1, 3, none⟩ (.slice b3 m.desks.length q3)) (w.heap.size + 1 + 1) 32 #[.slice b0 m.rooms.length q0, .slice b1 m.guilds.length q1, .slice b2 m.smiths.length q2, .slice b3 m.desks.length q3, .slice none 0 0, .int .i64 0]) := hide ((unhide ko).set 3 _)
  replace n0 := hide ((unhide n0).set_old (w.heap.size + 1 + 1) 3 (.slice b3 m.desks.length q3) (by omega))
  replace n1 := hide (RecAt.set_old (unhide n1) (w.heap.size + 1 + 1) 3 (.slice b3 m.desks.length q3) (by omega))
  replace n2 := hide (RecAt.set_old (unhide n2) (w.heap.size + 1 + 1) 3 (.slice b3 m.desks.length q3) (by omega))
  replace n3 := hide (RecAt.set_old (unhide n3) (w.heap.size + 1 + 1) 3 (.slice b3 m.desks.length q3) (by omega))
  replace BB : Hid (Below w.heap.size w (w4.setCell ⟨w.heap.size + 1 + 1, 3, none⟩ (.slice b3 m.desks.length q3))) := hide ((unhide BB).setCell (p := ⟨w.heap.size + 1 + 1, 3, none⟩) (by show w.heap.size ≤ w.heap.size + 1 + 1; omega) _)
  have hW3 : w.heap.size + 3 ≤ (w4.setCell ⟨w.heap.size + 1 + 1, 3, none⟩ (.slice b3 m.desks.length q3)).heap.size := by have := (unhide ko).lt; omega
  replace g3 : s3 ≤ (w4.setCell ⟨w.heap.size + 1 + 1, 3, none⟩ (.slice b3 m.desks.length q3)).heap.size := by simpa using g3
  clear o3 f3 c4 hW hW2
  generalize (w4.setCell ⟨w.heap.size + 1 + 1, 3, none⟩ (.slice b3 m.desks.length q3)) = W at *
  have hW := hW3
  clear hW3
  refine (toInt64S_any ((unhide Hv).below (unhide BB)).paces (unhide Hs).paces).mono ?_
  rintro e w5 ⟨u4, rfl, hp, hb⟩
  have n4 : Hid (NumsAt (w.heap.size + 3) w5 u4 m.paces) := hide (RecAt.mono hp hW)
  replace n0 := hide ((unhide n0).later hb)
  replace n1 := hide (RecAt.later (unhide n1) hb)
  replace n2 := hide (RecAt.later (unhide n2) hb)
  replace n3 := hide (RecAt.later (unhide n3) hb)
  replace ka := hide ((unhide ka).below hb (unhide ka).lt)
  replace kr := hide ((unhide kr).below hb (unhide kr).lt)
  replace ko := hide ((unhide ko).below hb (unhide ko).lt)
  replace BB := hide ((unhide BB).trans (hb.mono (unhide BB).size))
  have hW2 : w.heap.size + 3 ≤ w5.heap.size := by have := hb.size; omega
  obtain ⟨b4, q4, rfl⟩ := RecAt.shape hp
  have M4 : Hid (∀ b, (Value.slice b4 m.paces.length q4).ownBlock = some b → s3 ≤ b ∧ b < w5.heap.size) := hide (fun b e => ⟨Nat.le_trans g3 (RecAt.lt hp e).1, (RecAt.lt hp e).2⟩)
  obtain ⟨s4, hs4⟩ : ∃ s, s = w5.heap.size := ⟨_, rfl⟩
  rw [← hs4] at M4
  have r4z : s3 ≤ s4 := by have := hb.size; omega
  clear g3
  have g4 : s4 ≤ w5.heap.size := Nat.le_of_eq hs4
  clear hs4
  clear hp hb
  have o4 := (unhide ko).cell (i := 4) (v := .slice none 0 0) rfl
  have f4 := (unhide ko).free 4
  have o0 := (unhide ko).cell (i := 0) (v := .slice b0 m.rooms.length q0) rfl
  have r0 := (unhide kr).cell (i := 0) (v := .slice none 0 0) rfl
  have rf0 := (unhide kr).free 0
  have o1 := (unhide ko).cell (i := 1) (v := .slice b1 m.guilds.length q1) rfl
  have r1 := (unhide kr).cell (i := 1) (v := .slice none 0 0) rfl
  have rf1 := (unhide kr).free 1
  have o2 := (unhide ko).cell (i := 2) (v := .slice b2 m.smiths.length q2) rfl
  have r2 := (unhide kr).cell (i := 2) (v := .slice none 0 0) rfl
  have rf2 := (unhide kr).free 2
  have o3 := (unhide ko).cell (i := 3) (v := .slice b3 m.desks.length q3) rfl
  have r3 := (unhide kr).cell (i := 3) (v := .slice none 0 0) rfl
  have rf3 := (unhide kr).free 3
  have r4 := (unhide kr).cell (i := 4) (v := .slice none 0 0) rfl
  have rf4 := (unhide kr).free 4
  have o5 := (unhide ko).cell (i := 5) (v := .int .i64 0) rfl
  have r5 := (unhide kr).cell (i := 5) (v := .int .i64 0) rfl
  have rf5 := (unhide kr).free 5
  have f5 := (unhide ko).free 5
  have c5 := (unhide ka).cell (i := 5) (v := .int .i64 m.now) rfl
  go_wp2_with fail
  refine bodyPost_ret (v := .agg #[.slice b0 m.rooms.length q0, .slice b1 m.guilds.length q1, .slice b2 m.smiths.length q2, .slice b3 m.desks.length q3, .slice b4 m.paces.length q4, .int .i64 m.now]) (by simp [results, Tryz.results30, go_sem, r0, r1, r2, r3, r4, r5]) rfl ⟨_, _, _, _, _, qs, rfl, ?_, ?_⟩
  · refine FullSmy.mono ?_ (show w.heap.size ≤ w.heap.size + 3 by omega)
    iterate 8 (refine FullSmy.set ?_ _ _ _ (by omega))
    have H0 : ∀ {u : Value} {k : Nat}, s0 ≤ k → (∀ b, u.ownBlock = some b → k ≤ b) → OffHall u (.slice b0 m.rooms.length q0) qs := fun hk hu => ⟨off_of (k := s0) (fun b e => Nat.le_trans hk (hu b e)) (fun b e => unhide L0 b (.inl e)), fun q hq => off_of (k := s0) (fun b e => Nat.le_trans hk (hu b e)) (fun b e => unhide L0 b (.inr ⟨q, hq, e⟩))⟩
    exact ⟨unhide n0, unhide Hmap, unhide n1, unhide n2, unhide n3, unhide n4, H0 (k := s0) (Nat.le_refl _) (fun b e => (unhide M1 b e).1), H0 (k := s1) (by omega) (fun b e => (unhide M2 b e).1), H0 (k := s2) (by omega) (fun b e => (unhide M3 b e).1), H0 (k := s3) (by omega) (fun b e => (unhide M4 b e).1),
      (off_of (k := s1) (fun b e => (unhide M2 b e).1) (fun b e => (unhide M1 b e).2)).symm, (off_of (k := s1) (fun b e => by have := (unhide M3 b e).1; omega) (fun b e => (unhide M1 b e).2)).symm, (off_of (k := s1) (fun b e => by have := (unhide M4 b e).1; omega) (fun b e => (unhide M1 b e).2)).symm,
      (off_of (k := s2) (fun b e => (unhide M3 b e).1) (fun b e => (unhide M2 b e).2)).symm, (off_of (k := s2) (fun b e => by have := (unhide M4 b e).1; omega) (fun b e => (unhide M2 b e).2)).symm, (off_of (k := s3) (fun b e => (unhide M4 b e).1) (fun b e => (unhide M3 b e).2)).symm⟩
  · iterate 8 (refine Below.setCell ?_ (by first | (show _ ≤ w.heap.size + 1 + 1; omega) | (show _ ≤ w.heap.size + 1; omega)) _)
    exact unhide BB

end Go.Proofs.YthbbahagpmdooaaGreatDoor

/- Contracts of the laws' own helpers that mark a hall and ask whether it holds its marks: halls that the call itself made, no two rows in one block. Conditions: those that each theorem names. -/
namespace Go.Proofs.YthbbahagpmdooaaGreatDoor
open Go.ChangeShapes Go.WideShapes Go.ChangeAt Go.RowKit Go.Sort
set_option linter.unusedVariables false

theorem rput (b : Int) (x : List PaceV) : ∀ (qs : List (RoomV × Value)) (j : Nat) (h : j < qs.length), (rcells qs).set (j * 2) (.int .i64 b) = rcells (qs.set j ((b, x), qs[j].2))
  | q :: qs, 0, _ => by simp [rcells]
  | q :: qs, j + 1, h => by
    have ih := rput b x qs j (by simpa using h)
    unfold rcells at ih ⊢
    rw [List.flatMap_cons, show (j + 1) * 2 = j * 2 + 2 by omega]
    simpa using ih
set_option maxRecDepth 100000 in
set_option maxHeartbeats 2000000 in
theorem markPaceS_any {n₀ : Nat} {w : World} {v : Value} {ps : List PaceV} (k : Int) (h : PacesAt n₀ w v ps) (hk0 : 0 ≤ k) (hk1 : k ≤ 1000000000000000) (hl : ps.length ≤ 1000000000) :
    Calls Tryz.prog 203 #[v, .int .i64 k] w fun e w' => e = .returned (.int .i64 (k + 2 * (ps.length : Int))) ∧ PacesAt n₀ w' v (mps k ps.length) ∧ w.grownBy w' v.ownBlock := by
  have Hv := hide h
  obtain ⟨a, cap, rfl⟩ := h.shape
  clear h
  go_enter Tryz.func203, Tryz.ntmps203
  go_wp2_with fail
  go_loopw [5, 1] (fun i q wr => ∃ j : Nat, j ≤ ps.length ∧ i = .int .i64 j ∧ q = .int .i64 (k + 2 * (j : Int)) ∧ PacesAt n₀ wr (.slice a ps.length cap) (mpd ps k j) ∧ w.grownBy wr (Value.ownBlock (.slice a ps.length cap))) (fun i _ _ => ps.length - (intOf i).toNat)
  case atStart => exact ⟨0, Nat.zero_le _, rfl, by simp, by simpa [mpd, mps] using unhide Hv, grown_refl _ _⟩
  case round =>
    obtain ⟨j, hj, rfl, rfl, hin, hgr⟩ := hrel
    by_cases hlt : j < ps.length
    · unfold PacesAt at hin
      rw [mpd_len hj] at hin
      obtain ⟨g, rfl⟩ : ∃ g, a = some ⟨g, 0, none⟩ := by
        rcases hin.2 with ⟨h9, h8⟩ | ⟨g, c', cur, h9, _⟩
        · omega
        · cases h9; exact ⟨g, rfl⟩
      have hcell := fun (o : Nat) (ho : o < ps.length * 2) => World.ownsRow.cellAt hin o (by omega)
      have hpl : (pcells (mpd ps k j)).length = ps.length * 2 := by unfold pcells; rw [pairs_len, mpd_len hj]
      obtain ⟨c0, hc0⟩ : ∃ c, wr.cell? ⟨g, j * 2, none⟩ = some c := ⟨_, (hcell (j * 2) (by omega)).trans (List.getElem?_eq_getElem (by omega))⟩
      obtain ⟨c1, hc1⟩ : ∃ c, wr.cell? ⟨g, j * 2 + 1, none⟩ = some c := ⟨_, (hcell (j * 2 + 1) (by omega)).trans (List.getElem?_eq_getElem (by omega))⟩
      have f0 := World.ownsRow.frozenAt hin (j * 2)
      have f1 := World.ownsRow.frozenAt hin (j * 2 + 1)
      obtain ⟨s1, s2⟩ := World.ownsRow.stored hin (j * 2) (.int .i64 (k + 2 * (j : Int)))
      obtain ⟨t1, t2⟩ := World.ownsRow.stored s1 (j * 2 + 1) (.int .i64 (k + 2 * (j : Int) + 1))
      rw [pput _ _ _ _ (by rw [mpd_len hj]; exact hlt), mpd_succ hlt] at t1
      have H1 : Hid (PacesAt n₀ ((wr.setCell ⟨g, j * 2, none⟩ (.int .i64 (k + 2 * (j : Int)))).setCell ⟨g, j * 2 + 1, none⟩ (.int .i64 (k + 2 * (j : Int) + 1))) (.slice (some ⟨g, 0, none⟩) ps.length cap) (mpd ps k (j + 1))) := hide (by unfold PacesAt; rw [mpd_len hlt]; exact t1)
      have H2 := hide (grown_trans hgr (grown_trans s2 t2))
      have hc1' : (wr.setCell ⟨g, j * 2, none⟩ (.int .i64 (k + 2 * (j : Int)))).cell? ⟨g, j * 2 + 1, none⟩ = some c1 := by rw [World.cell?_setCell_other _ _ _ _ (by simp)]; exact hc1
      have f1' : (wr.setCell ⟨g, j * 2, none⟩ (.int .i64 (k + 2 * (j : Int)))).frozen? ⟨g, j * 2 + 1, none⟩ = false := by rw [World.frozen?_setCell]; exact f1
      clear hin hgr s1 s2 t1 t2 hcell hpl
      go_wp2_with fail
      go_roundw
      case rel => exact ⟨j + 1, by omega, by go_num, by go_num, unhide H1, unhide H2⟩
      case measure => simp [intOf]; omega
    · obtain rfl : j = ps.length := by omega
      rw [mpd_all] at hin
      go_wp2_with fail
      go_ret
      exact ⟨rfl, hin, hgr⟩

set_option maxRecDepth 100000 in
set_option maxHeartbeats 2000000 in
theorem heldPaceS_yes {w : World} {v : Value} (k : Int) (n : Nat) (h : IsPaces w v (mps k n)) (hk0 : 0 ≤ k) (hk1 : k ≤ 1000000000000000) (hl : n ≤ 1000000000) :
    Calls Tryz.prog 204 #[v, .int .i64 k] w fun e w' => e = .returned (.int .i64 (k + 2 * (n : Int))) ∧ w' = w := by
  obtain ⟨a, cap, rfl, hc, hm, hrow⟩ := h
  rw [mps_len] at *
  have Hrow := hide hrow
  clear hrow
  go_enter Tryz.func204, Tryz.ntmps204
  go_wp2_with fail
  go_loop [5, 1] (fun i q => ∃ j : Nat, j ≤ n ∧ i = .int .i64 j ∧ q = .int .i64 (k + 2 * (j : Int))) (fun i _ => n - (intOf i).toNat)
  case atStart => exact ⟨0, Nat.zero_le _, rfl, by simp⟩
  case round =>
    obtain ⟨j, hj, rfl, rfl⟩ := hrel
    by_cases hlt : j < n
    · rcases unhide Hrow with h0 | ⟨bk, off, rfl, hbw, hcl⟩
      · have := congrArg List.length h0; rw [mps_len] at this; simp at this; omega
      obtain ⟨c0, c1⟩ := hcl j hlt
      rw [mps_at k n j hlt] at c0 c1
      simp only at c0 c1
      clear hcl
      go_wp2_with fail
      go_round
      case rel => exact ⟨j + 1, by omega, by go_num, by go_num⟩
      case measure => simp [intOf]; omega
    · obtain rfl : j = n := by omega
      go_wp2_with fail
      go_ret
      exact ⟨rfl, rfl⟩

end Go.Proofs.YthbbahagpmdooaaGreatDoor

/- Contracts of the laws' own helpers that mark a hall's rooms and ask whether they hold their marks. Conditions: those that each theorem names. -/
namespace Go.Proofs.YthbbahagpmdooaaGreatDoor
open Go.ChangeShapes Go.WideShapes Go.ChangeAt Go.RowKit Go.Sort
set_option linter.unusedVariables false

theorem rsame (x : List PaceV) : ∀ (qs : List (RoomV × Value)) (j : Nat) (h : j < qs.length), rcells (qs.set j ((qs[j].1.1, x), qs[j].2)) = rcells qs
  | q :: qs, 0, _ => by simp [rcells]
  | q :: qs, j + 1, h => by
    have ih := rsame x qs j (by simpa using h)
    unfold rcells at ih ⊢
    simpa using ih
theorem map_keep {qs : List (RoomV × Value)} {j : Nat} (hj : j < qs.length) (r : RoomV) : (qs.set j (r, qs[j].2)).map (·.2) = qs.map (·.2) := by
  rw [List.map_set]
  simp only
  have : (qs.map (·.2))[j]'(by simpa using hj) = qs[j].2 := by simp
  rw [← this, List.set_getElem_self]
theorem mem_put {qs : List (RoomV × Value)} {j : Nat} (hj : j < qs.length) {r : RoomV} {q : RoomV × Value} (h : q ∈ qs.set j (r, qs[j].2)) : (q ∈ qs) ∨ q = (r, qs[j].2) := List.mem_or_eq_of_mem_set h

theorem OwnHall.bench {n₀ g cap : Nat} {w : World} {qs : List (RoomV × Value)} (h : OwnHall n₀ w (.slice (some ⟨g, 0, none⟩) qs.length cap) qs) {j : Nat} (hj : j < qs.length) (b : Int) :
    OwnHall n₀ (w.setCell ⟨g, j * 2, none⟩ (.int .i64 b)) (.slice (some ⟨g, 0, none⟩) qs.length cap) (qs.set j ((b, qs[j].1.2), qs[j].2)) := by
  have hst := (World.ownsRow.stored h.row (j * 2) (.int .i64 b)).1
  rw [rput b qs[j].1.2 qs j hj] at hst
  have hold : ∀ q ∈ qs, PacesAt n₀ (w.setCell ⟨g, j * 2, none⟩ (.int .i64 b)) q.2 q.1.2 := fun q hq => own_same (h.paces q hq) (fun k e => Below.heap_setCell w ⟨g, j * 2, none⟩ _ k (fun e' => h.off q hq k e (by show some g = some k; rw [e'])))
  refine ⟨by simpa using hst, fun q hq => ?_, fun q hq b' e => ?_, by rw [map_keep hj]; exact h.apart⟩
  · rcases mem_put hj hq with hq | rfl
    · exact hold q hq
    · exact hold qs[j] (List.getElem_mem hj)
  · rcases mem_put hj hq with hq | rfl
    · exact h.off q hq b' e
    · exact h.off qs[j] (List.getElem_mem hj) b' e
theorem apart_ne {qs : List (RoomV × Value)} (h : (qs.map (·.2)).Pairwise fun x y => ∀ b, x.ownBlock = some b → y.ownBlock ≠ some b) {i j : Nat} (hi : i < qs.length) (hj : j < qs.length) (hne : i ≠ j) {b : Nat} (e : qs[i].2.ownBlock = some b) : qs[j].2.ownBlock ≠ some b := by
  rw [List.pairwise_iff_getElem] at h
  rcases Nat.lt_or_gt_of_ne hne with hlt | hgt
  · have := h i j (by simpa using hi) (by simpa using hj) hlt b (by simpa using e)
    simpa using this
  · intro e'
    have := h j i (by simpa using hj) (by simpa using hi) hgt b (by simpa using e')
    simp at this
    exact this e
theorem OwnHall.repace {n₀ : Nat} {w w' : World} {v : Value} {qs : List (RoomV × Value)} (h : OwnHall n₀ w v qs) {j : Nat} (hj : j < qs.length) {ps : List PaceV} (hp : PacesAt n₀ w' qs[j].2 ps) (hg : w.grownBy w' qs[j].2.ownBlock) :
    OwnHall n₀ w' v (qs.set j ((qs[j].1.1, ps), qs[j].2)) := by
  have hs : ∀ k, k < w.heap.size → qs[j].2.ownBlock ≠ some k → w'.heap[k]? = w.heap[k]? := fun k hk hn => hg.block k hk (fun e => hn e.symm)
  refine ⟨?_, fun q hq => ?_, fun q hq b' e => ?_, by rw [map_keep hj]; exact h.apart⟩
  · have := own_same h.row (fun k e => hs k (h.lt (.inl e)).2 (fun e' => h.off qs[j] (List.getElem_mem hj) k e' e))
    rw [List.length_set, rsame ps qs j hj]; exact this
  · obtain ⟨i, hi, rfl⟩ := List.getElem_of_mem hq
    have hi' : i < qs.length := by simpa using hi
    by_cases hij : i = j
    · subst hij; simpa using hp
    · rw [List.getElem_set_ne (fun e => hij e.symm)]
      exact own_same (h.paces qs[i] (List.getElem_mem hi')) (fun k e => hs k (h.lt (.inr ⟨qs[i], List.getElem_mem hi', e⟩)).2 (apart_ne h.apart hi' hj hij e))
  · rcases mem_put hj hq with hq | rfl
    · exact h.off q hq b' e
    · exact h.off qs[j] (List.getElem_mem hj) b' e

/-- Only blocks of that hall and new ones may differ. -/
structure OwnOnly (v : Value) (qs : List (RoomV × Value)) (w w' : World) : Prop where
  os : w'.os = w.os
  tape : w'.tape = w.tape
  output : w'.output = w.output
  size : w.heap.size ≤ w'.heap.size
  block : ∀ k, k < w.heap.size → v.ownBlock ≠ some k → (∀ q ∈ qs, q.2.ownBlock ≠ some k) → w'.heap[k]? = w.heap[k]?
theorem OwnOnly.refl (v : Value) (qs : List (RoomV × Value)) (w : World) : OwnOnly v qs w w := ⟨rfl, rfl, rfl, Nat.le_refl _, fun _ _ _ _ => rfl⟩
theorem OwnOnly.trans {v : Value} {qs : List (RoomV × Value)} {a b c : World} (h : OwnOnly v qs a b) (k : OwnOnly v qs b c) : OwnOnly v qs a c :=
  ⟨k.os.trans h.os, k.tape.trans h.tape, k.output.trans h.output, Nat.le_trans h.size k.size, fun i hi h1 h2 => (k.block i (Nat.lt_of_lt_of_le hi h.size) h1 h2).trans (h.block i hi h1 h2)⟩
theorem OwnOnly.set {g n cap o : Nat} {qs : List (RoomV × Value)} {w : World} (x : Value) : OwnOnly (.slice (some ⟨g, 0, none⟩) n cap) qs w (w.setCell ⟨g, o, none⟩ x) :=
  ⟨rfl, rfl, rfl, by simp, fun k hk h1 _ => Below.heap_setCell w ⟨g, o, none⟩ x k (fun e => h1 (by show some g = some k; rw [e]))⟩
theorem OwnOnly.grown {v : Value} {qs : List (RoomV × Value)} {w w' : World} {q : RoomV × Value} (hq : q ∈ qs) (hg : w.grownBy w' q.2.ownBlock) : OwnOnly v qs w w' :=
  ⟨hg.os, hg.tape, hg.output, hg.size, fun k hk _ h2 => hg.block k hk (fun e => h2 q hq e.symm)⟩
theorem OwnOnly.alloc (v : Value) (qs : List (RoomV × Value)) (w : World) (o : Obj) : OwnOnly v qs w (w.alloc o) := ⟨rfl, rfl, rfl, by simp, fun k hk _ _ => Below.heap_alloc w o k hk⟩
def kEnd : Int → List (RoomV × Value) → Int
  | k, [] => k
  | k, q :: qs => kEnd (k + 1 + 2 * (q.1.2.length : Int)) qs
def markQ : Int → List (RoomV × Value) → List (RoomV × Value)
  | _, [] => []
  | k, q :: qs => ((k, mps (k + 1) q.1.2.length), q.2) :: markQ (k + 1 + 2 * (q.1.2.length : Int)) qs
theorem kEnd_app : ∀ (a : List (RoomV × Value)) (k : Int) (b : List (RoomV × Value)), kEnd k (a ++ b) = kEnd (kEnd k a) b
  | [], _, _ => rfl
  | q :: a, k, b => kEnd_app a _ b
theorem markQ_app : ∀ (a : List (RoomV × Value)) (k : Int) (b : List (RoomV × Value)), markQ k (a ++ b) = markQ k a ++ markQ (kEnd k a) b
  | [], _, _ => rfl
  | q :: a, k, b => by simp only [List.cons_append, markQ, kEnd]; rw [markQ_app a _ b]
theorem markQ_len : ∀ (a : List (RoomV × Value)) (k : Int), (markQ k a).length = a.length
  | [], _ => rfl
  | q :: a, k => by simp [markQ, markQ_len a]
theorem take_s {α : Type} {l : List α} {j : Nat} (h : j < l.length) : l.take (j + 1) = l.take j ++ [l[j]] := List.take_succ_eq_append_getElem h
theorem kEnd_s {qs : List (RoomV × Value)} {k : Int} {j : Nat} (h : j < qs.length) : kEnd k (qs.take (j + 1)) = kEnd k (qs.take j) + 1 + 2 * (qs[j].1.2.length : Int) := by rw [take_s h, kEnd_app]; rfl
theorem kEnd_bd {qs : List (RoomV × Value)} (hp : ∀ q ∈ qs, q.1.2.length ≤ 1048576) (k : Int) : ∀ j, j ≤ qs.length → k ≤ kEnd k (qs.take j) ∧ kEnd k (qs.take j) ≤ k + 2097153 * j
  | 0, _ => by simp [kEnd]
  | j + 1, hj => by
    have ih := kEnd_bd hp k j (by omega)
    have hq := hp qs[j] (List.getElem_mem (by omega))
    rw [kEnd_s (by omega)]; omega
def markedTo (k : Int) (qs : List (RoomV × Value)) (j : Nat) : List (RoomV × Value) := markQ k (qs.take j) ++ qs.drop j
theorem markedTo_len {k : Int} {qs : List (RoomV × Value)} {j : Nat} (h : j ≤ qs.length) : (markedTo k qs j).length = qs.length := by unfold markedTo; rw [List.length_append, markQ_len]; simp; omega
theorem markedTo_at? {k : Int} {qs : List (RoomV × Value)} {j : Nat} (h : j < qs.length) : (markedTo k qs j)[j]? = some qs[j] := by
  have hl : (markQ k (qs.take j)).length = j := by rw [markQ_len]; simp; omega
  unfold markedTo
  rw [List.getElem?_append_right (by omega), hl, Nat.sub_self, List.drop_eq_getElem_cons h]; rfl
theorem markedTo_at {k : Int} {qs : List (RoomV × Value)} {j : Nat} (h : j < qs.length) (h' : j < (markedTo k qs j).length) : (markedTo k qs j)[j] = qs[j] := by
  have h1 := markedTo_at? (k := k) h
  rw [List.getElem?_eq_getElem h'] at h1
  exact Option.some.inj h1
theorem markedTo_s {k : Int} {qs : List (RoomV × Value)} {j : Nat} (h : j < qs.length) : (markedTo k qs j).set j ((kEnd k (qs.take j), mps (kEnd k (qs.take j) + 1) qs[j].1.2.length), qs[j].2) = markedTo k qs (j + 1) := by
  unfold markedTo
  have hl : (markQ k (qs.take j)).length = j := by rw [markQ_len]; simp; omega
  rw [List.set_append_right _ _ (by omega), hl, Nat.sub_self, List.drop_eq_getElem_cons h, List.set_cons_zero, take_s h, markQ_app]
  simp [markQ]
theorem markedTo_all (k : Int) (qs : List (RoomV × Value)) : markedTo k qs qs.length = markQ k qs := by simp [markedTo]
theorem markQ_at {k : Int} {qs : List (RoomV × Value)} {j : Nat} (h : j < qs.length) : roomAt ((markQ k qs).map (·.1)) j = (kEnd k (qs.take j), mps (kEnd k (qs.take j) + 1) qs[j].1.2.length) := by
  have e : markQ k qs = markQ k (qs.take j) ++ markQ (kEnd k (qs.take j)) (qs.drop j) := by rw [← markQ_app, List.take_append_drop]
  have hl : (markQ k (qs.take j)).length = j := by rw [markQ_len]; simp; omega
  unfold roomAt
  rw [e, List.drop_eq_getElem_cons h]
  simp only [markQ, List.map_append, List.map_cons, List.getD]
  rw [List.getElem?_append_right (by rw [List.length_map, hl]; omega), List.length_map, hl, Nat.sub_self]
  rfl

set_option maxRecDepth 100000 in
set_option maxHeartbeats 2000000 in
theorem markRoomS_any {n₀ : Nat} {w : World} {v : Value} {qs : List (RoomV × Value)} (k : Int) (h : OwnHall n₀ w v qs) (hn : n₀ ≤ w.heap.size) (hk0 : 0 ≤ k) (hk1 : k ≤ 1000000000) (hl : qs.length ≤ 1048576) (hp : ∀ q ∈ qs, q.1.2.length ≤ 1048576) :
    Calls Tryz.prog 146 #[v, .int .i64 k] w fun e w' => e = .returned (.int .i64 (kEnd k qs)) ∧ OwnHall n₀ w' v (markQ k qs) ∧ OwnOnly v qs w w' := by
  have Hv := hide h
  obtain ⟨a, cap, rfl⟩ := h.shape
  have Hp := hide hp
  clear h hp
  go_enter Tryz.func146, Tryz.ntmps146
  go_wp2_with fail
  go_loopw [5, 1] (fun i q wr => ∃ j : Nat, j ≤ qs.length ∧ i = .int .i64 j ∧ q = .int .i64 (kEnd k (qs.take j)) ∧ OwnHall n₀ wr (.slice a qs.length cap) (markedTo k qs j) ∧ OwnOnly (.slice a qs.length cap) qs w wr) (fun i _ _ => qs.length - (intOf i).toNat)
  case atStart => exact ⟨0, Nat.zero_le _, rfl, rfl, by simpa [markedTo, markQ] using unhide Hv, OwnOnly.refl _ _ _⟩
  case round =>
    obtain ⟨j, hj, rfl, rfl, hin, hbl⟩ := hrel
    by_cases hlt : j < qs.length
    · have hml := markedTo_len (k := k) (Nat.le_of_lt hlt)
      have hjm : j < (markedTo k qs j).length := by rw [hml]; exact hlt
      have hat := markedTo_at (k := k) hlt hjm
      have hkb := kEnd_bd (unhide Hp) k j hj
      have hks := kEnd_s (k := k) hlt
      have Hms := hide (markedTo_s (k := k) hlt)
      have hpl := unhide Hp qs[j] (List.getElem_mem hlt)
      obtain ⟨g, rfl⟩ : ∃ g, a = some ⟨g, 0, none⟩ := by
        rcases hin.row.2 with ⟨h9, h8⟩ | ⟨g, c', cur, h9, _⟩
        · omega
        · simp only [Value.slice.injEq] at h9; exact ⟨g, h9.1⟩
      have hin0 := hin
      rw [← hml] at hin
      have hb1 := hin.bench hjm (kEnd k (qs.take j))
      rw [hml] at hb1
      have hrow := hin0.row
      rw [hml] at hrow
      have hc0 := World.ownsRow.cellAt hrow (j * 2) (by omega)
      have hc1 := World.ownsRow.cellAt hrow (j * 2 + 1) (by omega)
      have hpg := pairs_get (f := fun q : RoomV × Value => Value.int .i64 q.1.1) (g := fun q : RoomV × Value => q.2) (markedTo k qs j) j hjm
      have hc0' := hc0.trans hpg.1
      have hc1' := hc1.trans hpg.2
      have f0 := World.ownsRow.frozenAt hrow (j * 2)
      rw [hat] at hc0' hc1' hb1
      have HW1 : Hid (OwnOnly (.slice (some ⟨g, 0, none⟩) qs.length cap) qs w (wr.setCell ⟨g, j * 2, none⟩ (.int .i64 (kEnd k (qs.take j))))) := hide (hbl.trans (OwnOnly.set _))
      have hjs : j < ((markedTo k qs j).set j ((kEnd k (qs.take j), qs[j].1.2), qs[j].2)).length := by rw [List.length_set]; exact hjm
      have hpa := hb1.paces _ (List.getElem_mem hjs)
      rw [List.getElem_set_self] at hpa
      simp only at hpa
      have Hb1 := hide hb1
      have Hpa := hide hpa
      have hd1 : (wr.setCell ⟨g, j * 2, none⟩ (.int .i64 (kEnd k (qs.take j)))).cell? ⟨g, j * 2 + 1, none⟩ = some qs[j].2 := by rw [World.cell?_setCell_other _ _ _ _ (by simp)]; exact hc1'
      obtain ⟨pa, pcap, hps⟩ := hpa.shape
      rw [hps] at hd1
      have Hps := hide hps
      generalize kEnd k (qs.take j) = kj at *
      generalize hk' : kEnd k (qs.take (j + 1)) = kj' at *
      have Hk' := hide hk'
      clear hin hin0 hb1 hrow hc0 hc1 hpg hc1' hpa hps hat hk'
      generalize hbb : qs[j].1.1 = bb at *
      clear hbb
      generalize hll : qs[j].1.2.length = ll at *
      have Hll := hide hll
      clear hll
      go_wp2_with fail
      refine (markPaceS_any (n₀ := n₀) (ps := qs[j].1.2) (kj + 1) (by have h2 := unhide Hpa; rw [unhide Hps] at h2; exact h2) (by omega) (by omega) (by rw [unhide Hll]; omega)).mono ?_
      rw [unhide Hll]
      rintro e w2 ⟨rfl, hpa2, hgr⟩
      have Hrep : Hid (OwnHall n₀ w2 (.slice (some ⟨g, 0, none⟩) qs.length cap) (markedTo k qs (j + 1)) ∧ OwnOnly (.slice (some ⟨g, 0, none⟩) qs.length cap) qs w w2) := hide (by
        have hj2 : j < ((markedTo k qs j).set j ((kj, qs[j].1.2), qs[j].2)).length := hjs
        have e2 : (((markedTo k qs j).set j ((kj, qs[j].1.2), qs[j].2))[j]'hj2) = ((kj, qs[j].1.2), qs[j].2) := List.getElem_set_self _
        have h3 := OwnHall.repace (unhide Hb1) hj2 (ps := mps (kj + 1) ll) (w' := w2) (by rw [e2]; simp only; rw [unhide Hps]; exact hpa2) (by rw [e2]; simp only; rw [unhide Hps]; exact hgr)
        rw [e2, List.set_set] at h3
        simp only at h3
        have h4 := unhide Hms
        rw [h4] at h3
        exact ⟨h3, (unhide HW1).trans (OwnOnly.grown (List.getElem_mem hlt) (by rw [unhide Hps]; exact hgr))⟩)
      clear hpa2 hgr
      go_wp2_with fail
      go_roundw
      case rel => exact ⟨j + 1, by omega, by go_num, by rw [unhide Hk', hks], (unhide Hrep).1, (unhide Hrep).2⟩
      case measure => simp [intOf]; omega
    · obtain rfl : j = qs.length := by omega
      rw [markedTo_all] at hin
      rw [List.take_length]
      go_wp2_with fail
      go_ret
      exact ⟨rfl, hin, hbl⟩

set_option maxRecDepth 100000 in
set_option maxHeartbeats 2000000 in
theorem heldRoomS_yes {w : World} {v : Value} {qs : List (RoomV × Value)} (k : Int) (h : IsRooms w v ((markQ k qs).map (·.1))) (hk0 : 0 ≤ k) (hk1 : k ≤ 1000000000) (hl : qs.length ≤ 1048576) (hp : ∀ q ∈ qs, q.1.2.length ≤ 1048576) :
    Calls Tryz.prog 147 #[v, .int .i64 k] w fun e w' => e = .returned (.int .i64 (kEnd k qs)) ∧ w' = w := by
  have hlen : ((markQ k qs).map (·.1)).length = qs.length := by rw [List.length_map, markQ_len]
  obtain ⟨a, cap, rfl, hc, hm, hrow⟩ := h
  rw [hlen] at hc hrow ⊢
  have Hrow := hide hrow
  have Hp := hide hp
  clear hrow hp
  go_enter Tryz.func147, Tryz.ntmps147
  go_wp2_with fail
  go_loop [5, 1] (fun i q => ∃ j : Nat, j ≤ qs.length ∧ i = .int .i64 j ∧ q = .int .i64 (kEnd k (qs.take j))) (fun i _ => qs.length - (intOf i).toNat)
  case atStart => exact ⟨0, Nat.zero_le _, rfl, rfl⟩
  case round =>
    obtain ⟨j, hj, rfl, rfl⟩ := hrel
    by_cases hlt : j < qs.length
    · have hkb := kEnd_bd (unhide Hp) k j hj
      have hks := kEnd_s (k := k) hlt
      have hpl := unhide Hp qs[j] (List.getElem_mem hlt)
      have hma := markQ_at (k := k) hlt
      rcases unhide Hrow with h0 | ⟨bk, off, rfl, hbw, hcl⟩
      · have h7 := congrArg List.length h0; rw [List.length_map, markQ_len, List.length_nil] at h7; omega
      obtain ⟨c0, pv, c1, hip⟩ := hcl j hlt
      rw [hma] at c0 hip
      simp only at c0 hip
      have hsh : ∃ pa pcap, pv = .slice pa qs[j].1.2.length pcap := by obtain ⟨pa, pcap, rfl, _⟩ := hip; exact ⟨pa, pcap, by rw [mps_len]⟩
      obtain ⟨pa, pcap, rfl⟩ := hsh
      have Hip := hide hip
      generalize qs[j].1.2.length = ll at *
      generalize kEnd k (qs.take j) = kj at *
      generalize hk' : kEnd k (qs.take (j + 1)) = kj' at *
      have Hk' := hide hk'
      clear hcl hip hma hk'
      have hneg : ¬ kj + 1 + 2 * (ll : Int) < 0 := by omega
      go_wp2_with fail
      refine (heldPaceS_yes (kj + 1) ll (unhide Hip) (by omega) (by omega) (by omega)).mono ?_
      rintro e w2 ⟨rfl, hw2⟩
      subst w2
      go_wp2_with fail
      go_round
      case rel => exact ⟨j + 1, by omega, by go_num, by rw [unhide Hk', hks]⟩
      case measure => simp [intOf]; omega
    · obtain rfl : j = qs.length := by omega
      rw [List.take_length]
      go_wp2_with fail
      go_ret
      exact ⟨rfl, rfl⟩

set_option maxRecDepth 100000 in
set_option maxHeartbeats 1000000 in
theorem markHall_any {n₀ : Nat} {w : World} {v : Value} {qs : List (RoomV × Value)} (k : Int) (h : OwnHall n₀ w v qs) (hn : n₀ ≤ w.heap.size) (hk0 : 0 ≤ k) (hk1 : k ≤ 1000000000) (hl : qs.length ≤ 1048576) (hp : ∀ q ∈ qs, q.1.2.length ≤ 1048576) :
    Calls Tryz.prog 84 #[.agg #[v], .int .i64 k] w fun e w' => e = .returned (.int .i64 (kEnd k qs)) ∧ OwnHall n₀ w' v (markQ k qs) ∧ OwnOnly v qs w w' := by
  have Hv := hide h
  obtain ⟨a, cap, rfl⟩ := h.shape
  have Hp := hide hp
  clear h hp
  go_enter Tryz.func84, Tryz.ntmps84
  go_wp2_with fail
  refine (markRoomS_any k ((unhide Hv).later ((Below.refl _ _).alloc (Nat.le_refl _) _)) (by simp; omega) hk0 hk1 hl (unhide Hp)).mono ?_
  rintro e w1 ⟨rfl, ho, hb⟩
  have Ho := hide ho
  have Hb := hide hb
  clear ho hb
  go_wp2_with fail
  go_ret
  exact ⟨rfl, unhide Ho, (OwnOnly.alloc _ _ _ _).trans (unhide Hb)⟩

set_option maxRecDepth 100000 in
set_option maxHeartbeats 1000000 in
theorem heldHall_yes {w : World} {v : Value} {qs : List (RoomV × Value)} (k : Int) (h : IsRooms w v ((markQ k qs).map (·.1))) (hk0 : 0 ≤ k) (hk1 : k ≤ 1000000000) (hl : qs.length ≤ 1048576) (hp : ∀ q ∈ qs, q.1.2.length ≤ 1048576) :
    Calls Tryz.prog 89 #[.agg #[v], .int .i64 k] w fun e w' => e = .returned (.int .i64 (kEnd k qs)) ∧ Below w.heap.size w w' := by
  have Hv := hide h
  obtain ⟨a, cap, rfl⟩ : ∃ a cap, v = .slice a qs.length cap := by obtain ⟨a, cap, rfl, _⟩ := h; exact ⟨a, cap, by rw [List.length_map, markQ_len]⟩
  have hb := kEnd_bd hp k qs.length (Nat.le_refl _)
  rw [List.take_length] at hb
  have Hp := hide hp
  have hneg : ¬ kEnd k qs < 0 := by omega
  clear h hp
  go_enter Tryz.func89, Tryz.ntmps89
  go_wp2_with fail
  refine (heldRoomS_yes (qs := qs) k ((unhide Hv).below ((Below.refl _ _).alloc (Nat.le_refl _) _)) hk0 hk1 hl (unhide Hp)).mono ?_
  rintro e w1 ⟨rfl, hw1⟩
  subst w1
  go_wp2_with fail
  go_ret
  exact ⟨rfl, (Below.refl _ _).alloc (Nat.le_refl _) _⟩

end Go.Proofs.YthbbahagpmdooaaGreatDoor

/- Contracts of the laws' own helpers that mark a list of records (Guild) and ask whether it holds its marks. Conditions: those that each theorem names. -/
namespace Go.Proofs.YthbbahagpmdooaaGreatDoor
open Go.ChangeShapes Go.WideShapes Go.ChangeAt Go.RowKit Go.Sort
set_option linter.unusedVariables false

def mkGuild (c : Int) : GuildV := (c, c + 1, c + 1 + 1)

set_option maxRecDepth 100000 in
set_option maxHeartbeats 8000000 in
theorem markGuildS_any {n₀ : Nat} {w : World} {v : Value} {ps : List GuildV} (c : Int) (h : GuildsAt n₀ w v ps) (hk0 : 0 ≤ c) (hk1 : c ≤ 1000000000000000) (hl : ps.length ≤ 10000000) :
    Calls Tryz.prog 85 #[v, .int .i64 c] w fun e w' => e = .returned (.int .i64 (c + 3 * (ps.length : Int))) ∧ GuildsAt n₀ w' v (markL mkGuild 3 c ps.length) ∧ w.grownBy w' v.ownBlock := by
  have Hv := hide h
  obtain ⟨a, cap, rfl⟩ := RecAt.shape h
  clear h
  go_enter Tryz.func85, Tryz.ntmps85
  go_wp2_with fail
  go_loopw [5, 1] (fun i q wr => ∃ j : Nat, j ≤ ps.length ∧ i = .int .i64 j ∧ q = .int .i64 (c + 3 * (j : Int)) ∧ GuildsAt n₀ wr (.slice a ps.length cap) (markedL mkGuild 3 c ps j) ∧ w.grownBy wr (Value.ownBlock (.slice a ps.length cap))) (fun i _ _ => ps.length - (intOf i).toNat)
  case atStart => exact ⟨0, Nat.zero_le _, rfl, by simp, by rw [markedL_zero]; exact unhide Hv, grown_refl _ _⟩
  case round =>
    obtain ⟨j, hj, rfl, rfl, hin, hgr⟩ := hrel
    by_cases hlt : j < ps.length
    · have hfl := markedL_len (mk := mkGuild) (d := 3) (c := c) hj
      obtain ⟨g, rfl, _, _, hcells, hfz⟩ := RecAt.view encGuild_len (by omega) hin hfl.symm (by omega)
      have hq := fun i u hu => hcells j (by omega) i u hu
      generalize recAt (markedL mkGuild 3 c ps j) j = old at hq
      have o0 := hq 0 _ rfl
      have f0 := hfz (j * 3)
      have o1 := hq 1 _ rfl
      have f1 := hfz (j * 3 + 1)
      have o2 := hq 2 _ rfl
      have f2 := hfz (j * 3 + 2)
      simp only [Nat.add_zero] at o0
      have hp := RecAt.put encGuild_len (by omega) hin hfl.symm (j := j) (by omega) (mkGuild (c + 3 * (j : Int)))
      have hs9 := markedL_set (mk := mkGuild) (d := 3) (c := c) hlt
      rw [show ((3 : Nat) : Int) = 3 from rfl] at hs9
      have HS := hide hs9
      clear hs9
      have H1 := hide hp.1
      have H2 := hide (grown_trans hgr hp.2)
      clear hin hgr hcells hq hfz hp hfl
      go_wp2_with fail
      go_roundw
      case rel => exact ⟨j + 1, by omega, by go_num, by go_num, by have h9 := unhide H1; rw [unhide HS] at h9; exact h9, unhide H2⟩
      case measure => simp [intOf]; omega
    · obtain rfl : j = ps.length := by omega
      rw [markedL_all] at hin
      go_wp2_with fail
      go_ret
      exact ⟨rfl, hin, hgr⟩

set_option maxRecDepth 100000 in
set_option maxHeartbeats 8000000 in
theorem heldGuildS_yes {w : World} {v : Value} (c : Int) (n : Nat) (h : IsGuilds w v (markL mkGuild 3 c n)) (hk0 : 0 ≤ c) (hk1 : c ≤ 1000000000000000) (hl : n ≤ 10000000) :
    Calls Tryz.prog 90 #[v, .int .i64 c] w fun e w' => e = .returned (.int .i64 (c + 3 * (n : Int))) ∧ w' = w := by
  obtain ⟨a, cap, rfl, hc, hm, hrow⟩ := h
  rw [markL_len] at *
  have Hrow := hide hrow
  clear hrow
  go_enter Tryz.func90, Tryz.ntmps90
  go_wp2_with fail
  go_loop [5, 1] (fun i q => ∃ j : Nat, j ≤ n ∧ i = .int .i64 j ∧ q = .int .i64 (c + 3 * (j : Int))) (fun i _ => n - (intOf i).toNat)
  case atStart => exact ⟨0, Nat.zero_le _, rfl, by simp⟩
  case round =>
    obtain ⟨j, hj, rfl, rfl⟩ := hrel
    by_cases hlt : j < n
    · rcases unhide Hrow with h0 | ⟨bk, off, rfl, hbw, hcl⟩
      · have := congrArg List.length h0; rw [markL_len] at this; simp at this; omega
      have hq := fun i u hu => hcl j hlt i u hu
      rw [markL_at _ _ _ hlt, show ((3 : Nat) : Int) = 3 from rfl] at hq
      have c0 : w.cell? ⟨bk, off + j * 3, none⟩ = some (.int .i64 ((c + 3 * (j : Int)))) := hq 0 _ rfl
      have c1 : w.cell? ⟨bk, off + j * 3 + 1, none⟩ = some (.int .i64 ((c + 3 * (j : Int)) + 1)) := hq 1 _ rfl
      have c2 : w.cell? ⟨bk, off + j * 3 + 2, none⟩ = some (.int .i64 ((c + 3 * (j : Int)) + 1 + 1)) := hq 2 _ rfl
      clear hcl hq
      go_wp2_with fail
      go_round
      case rel => exact ⟨j + 1, by omega, by go_num, by go_num⟩
      case measure => simp [intOf]; omega
    · obtain rfl : j = n := by omega
      go_wp2_with fail
      go_ret
      exact ⟨rfl, rfl⟩

end Go.Proofs.YthbbahagpmdooaaGreatDoor

