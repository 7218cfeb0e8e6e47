/- What the proof rests on, part 20: lists and numbers, how they lie in memory, and contracts of the calls. No condition but those that a theorem names. -/
import Derived.Test.YtmhagllddhjgmaaGreatXa01
import Derived.Test.YtmhagllddhjgmaaGreatXa02
import Derived.Test.YtmhagllddhjgmaaGreatXa03
import Derived.Test.YtmhagllddhjgmaaGreatXa04
import Derived.Test.YtmhagllddhjgmaaGreatXa05
import Derived.Test.YtmhagllddhjgmaaGreatXa06
import Derived.Test.YtmhagllddhjgmaaGreatXa07
import Derived.Test.YtmhagllddhjgmaaGreatXa08
import Derived.Test.YtmhagllddhjgmaaGreatXa18
import Derived.Test.YtmhagllddhjgmaaGreatXa19
import Derived.Lib.SmallJoins
import Derived.Lib.QuietBelow
import Derived.WalkKit
import Derived.ProofKit
import Derived.OpenShut
import Derived.Outline
import Derived.Deep.RegionWith
import Derived.Maps.AppendAt
import Derived.Deep.Fields
import Derived.Deep.Slices
import Derived.Deep.QuietTactic
import Derived.BigQuiet
import Derived.Laws.OwnMore
import Derived.OwnWalk
/- A smithy that the call made, no two rows of it in one block; the laws' copy of a smithy is such a one. Conditions: the slices can be read; what is copied is no longer than 2^20. -/
namespace Go.Proofs.YtmhagllddhjgmaaGreat
open Go.ChangeShapes Go.WideShapes Go.ChangeAt Go.RowKit Go.Sort
set_option linter.unusedVariables false

/-- Two slices lie in different blocks. -/
def Off2 (u v : Value) : Prop := ∀ b, u.ownBlock = some b → v.ownBlock ≠ some b
theorem Off2.symm {u v : Value} (h : Off2 u v) : Off2 v u := fun b e e' => h b e' e
/-- No block of u is one of the hall's. -/
def OffHall (u v : Value) (qs : List (RoomV × Value)) : Prop := Off2 u v ∧ ∀ q ∈ qs, Off2 u q.2
structure FullSmy (n₀ : Nat) (w : World) (v0 v1 v2 v3 v4 : Value) (m : SmyV) (qs : List (RoomV × Value)) : Prop where
  hall : OwnHall n₀ w v0 qs
  rooms : qs.map (·.1) = m.rooms
  guilds : GuildsAt n₀ w v1 m.guilds
  smiths : SmithsAt n₀ w v2 m.smiths
  desks : DesksAt n₀ w v3 m.desks
  paces : NumsAt n₀ w v4 m.paces
  h1 : OffHall v1 v0 qs
  h2 : OffHall v2 v0 qs
  h3 : OffHall v3 v0 qs
  h4 : OffHall v4 v0 qs
  a12 : Off2 v1 v2
  a13 : Off2 v1 v3
  a14 : Off2 v1 v4
  a23 : Off2 v2 v3
  a24 : Off2 v2 v4
  a34 : Off2 v3 v4
theorem FullSmy.smy {n₀ : Nat} {w : World} {v0 v1 v2 v3 v4 : Value} {m : SmyV} {qs : List (RoomV × Value)} (h : FullSmy n₀ w v0 v1 v2 v3 v4 m qs) : Smy w v0 v1 v2 v3 v4 m :=
  ⟨by rw [← h.rooms]; exact h.hall.rooms, h.guilds.list, h.smiths.list, h.desks.list, h.paces.list⟩
theorem OwnHall.set_old {n₀ : Nat} {w : World} {v : Value} {qs : List (RoomV × Value)} (h : OwnHall n₀ w v qs) (g o : Nat) (u : Value) (hg : g < n₀) : OwnHall n₀ (w.setCell ⟨g, o, none⟩ u) v qs :=
  h.same fun k h0 hk => heap_setCell_other w _ k u (by show k ≠ g; omega)
theorem FullSmy.below {n₀ : Nat} {w w' : World} {v0 v1 v2 v3 v4 : Value} {m : SmyV} {qs : List (RoomV × Value)} (h : FullSmy n₀ w v0 v1 v2 v3 v4 m qs) (hb : Below w.heap.size w w') : FullSmy n₀ w' v0 v1 v2 v3 v4 m qs :=
  ⟨h.hall.later hb, h.rooms, RecAt.later h.guilds hb, RecAt.later h.smiths hb, RecAt.later h.desks hb, RecAt.later h.paces hb, h.h1, h.h2, h.h3, h.h4, h.a12, h.a13, h.a14, h.a23, h.a24, h.a34⟩
theorem FullSmy.set {n₀ : Nat} {w : World} {v0 v1 v2 v3 v4 : Value} {m : SmyV} {qs : List (RoomV × Value)} (h : FullSmy n₀ w v0 v1 v2 v3 v4 m qs) (g o : Nat) (u : Value) (hg : g < n₀) : FullSmy n₀ (w.setCell ⟨g, o, none⟩ u) v0 v1 v2 v3 v4 m qs :=
  ⟨h.hall.set_old g o u hg, h.rooms, RecAt.set_old h.guilds g o u hg, RecAt.set_old h.smiths g o u hg, RecAt.set_old h.desks g o u hg, RecAt.set_old h.paces g o u hg, h.h1, h.h2, h.h3, h.h4, h.a12, h.a13, h.a14, h.a23, h.a24, h.a34⟩
theorem FullSmy.mono {n₀ n₁ : Nat} {w : World} {v0 v1 v2 v3 v4 : Value} {m : SmyV} {qs : List (RoomV × Value)} (h : FullSmy n₀ w v0 v1 v2 v3 v4 m qs) (hn : n₁ ≤ n₀) : FullSmy n₁ w v0 v1 v2 v3 v4 m qs :=
  ⟨h.hall.mono hn, h.rooms, RecAt.mono h.guilds hn, RecAt.mono h.smiths hn, RecAt.mono h.desks hn, RecAt.mono h.paces hn, h.h1, h.h2, h.h3, h.h4, h.a12, h.a13, h.a14, h.a23, h.a24, h.a34⟩
/-- One lies below a number, the other one not. -/
theorem off_of {u v : Value} {k : Nat} (hu : ∀ b, u.ownBlock = some b → k ≤ b) (hv : ∀ b, v.ownBlock = some b → b < k) : Off2 u v := fun b e e' => by have := hu b e; have := hv b e'; omega

set_option maxHeartbeats 2000000 in
theorem toHall_full {w : World} {v : Value} {rs : List RoomV} (h : IsRooms w v rs) (hs : Small rs) :
    Calls Tryz.prog 77 #[.agg #[v]] w fun e w' => ∃ v' qs, e = .returned (.agg #[v']) ∧ qs.map (·.1) = rs ∧ OwnHall w.heap.size w' v' qs ∧ Below w.heap.size w w' := by
  have Hv := hide h
  obtain ⟨a, cap, rfl, hc, hm, hr⟩ := h
  clear hr
  have Hb0 : Hid (∀ o1 o2 o3 : Obj, Below w.heap.size w (((w.alloc o1).alloc o2).alloc o3)) := hide (fun o1 o2 o3 => (((Below.refl _ _).alloc (Nat.le_refl _) _).alloc (by simp) _).alloc (by simp; omega) _)
  go_enter Tryz.func77, Tryz.ntmps77
  go_wp2_with fail
  refine (toRoomS_own ((unhide Hv).below (unhide Hb0 _ _ _)) hs).mono ?_
  rintro e w1 ⟨v', qs, rfl, hmap, hp, hb1⟩
  simp only [World.size_alloc] at hp
  have hsz : w.heap.size + 3 ≤ w1.heap.size := by have := hb1.size; simp at this; omega
  obtain ⟨cc, ff⟩ := bcell hb1
  have x0 := cc (w.heap.size + 2) 0 (by simp)
  have y0 := cc (w.heap.size + 1) 0 (by simp)
  have fx0 := ff (w.heap.size + 2) 0 (by simp)
  have fy0 := ff (w.heap.size + 1) 0 (by simp)
  have Hp := hide hp
  have Hb1 := hide hb1
  obtain ⟨a', cap', rfl⟩ := hp.shape
  have hql : qs.length = rs.length := by rw [← hmap, List.length_map]
  have Hmap := hide hmap
  rw [hql] at Hp ⊢
  clear hp hmap hql
  clear cc ff hb1
  go_wp2_with fail
  have B1 : Below w.heap.size w w1 := (unhide Hb0 _ _ _).trans ((unhide Hb1).mono (by simp; omega))
  refine bodyPost_ret (v := .agg #[.slice a' rs.length cap']) (by simp [results, Tryz.results77, go_sem, *]) rfl ⟨_, qs, rfl, unhide Hmap, ?_, ?_⟩
  · exact (((unhide Hp).set_old _ _ _ (by omega)).set_old _ _ _ (by omega)).mono (by omega)
  · exact (B1.setCell (by show _ ≤ w.heap.size + 1 + 1; omega) _).setCell (by show _ ≤ w.heap.size + 1; omega) _

set_option maxRecDepth 100000 in
set_option maxHeartbeats 4000000 in
theorem toSmithy_full {w : World} {v0 v1 v2 v3 v4 : Value} {m : SmyV} (h : Smy w v0 v1 v2 v3 v4 m) (hs : SmySmall m) :
    Calls Tryz.prog 30 #[.agg #[v0, v1, v2, v3, v4, .int .i64 m.now]] w fun e w' => ∃ u0 u1 u2 u3 u4 qs, e = .returned (.agg #[u0, u1, u2, u3, u4, .int .i64 m.now]) ∧ FullSmy w.heap.size w' u0 u1 u2 u3 u4 m qs ∧ Below w.heap.size w w' := by
  have Hv := hide h
  have Hs := hide hs
  obtain ⟨a0, p0, rfl, _, _⟩ := IsRooms.shape h.rooms
  obtain ⟨a1, p1, rfl, hc1, hm1⟩ := IsRec.shape h.guilds
  obtain ⟨a2, p2, rfl, hc2, hm2⟩ := IsRec.shape h.smiths
  obtain ⟨a3, p3, rfl, hc3, hm3⟩ := IsRec.shape h.desks
  obtain ⟨a4, p4, rfl, hc4, hm4⟩ := IsRec.shape h.paces
  clear h hs
  go_enter Tryz.func30, Tryz.ntmps30
  go_wp2_with fail
  have BB : Hid (Below w.heap.size w (((w.alloc (.cells #[.slice a0 m.rooms.length p0, .slice a1 m.guilds.length p1, .slice a2 m.smiths.length p2, .slice a3 m.desks.length p3, .slice a4 m.paces.length p4, .int .i64 m.now] 63)).alloc (.cells #[.slice none 0 0, .slice none 0 0, .slice none 0 0, .slice none 0 0, .slice none 0 0, .int .i64 0] 32)).alloc (.cells #[.slice none 0 0, .slice none 0 0, .slice none 0 0, .slice none 0 0, .slice none 0 0, .int .i64 0] 32))) := hide ((((Below.refl _ _).alloc (Nat.le_refl _) _).alloc (by simp) _).alloc (by simp; omega) _)
  have ka : Hid (Blk (((w.alloc (.cells #[.slice a0 m.rooms.length p0, .slice a1 m.guilds.length p1, .slice a2 m.smiths.length p2, .slice a3 m.desks.length p3, .slice a4 m.paces.length p4, .int .i64 m.now] 63)).alloc (.cells #[.slice none 0 0, .slice none 0 0, .slice none 0 0, .slice none 0 0, .slice none 0 0, .int .i64 0] 32)).alloc (.cells #[.slice none 0 0, .slice none 0 0, .slice none 0 0, .slice none 0 0, .slice none 0 0, .int .i64 0] 32)) w.heap.size 63 #[.slice a0 m.rooms.length p0, .slice a1 m.guilds.length p1, .slice a2 m.smiths.length p2, .slice a3 m.desks.length p3, .slice a4 m.paces.length p4, .int .i64 m.now]) := hide (((Blk.new w _ _).alloc _).alloc _)
  have kr : Hid (Blk (((w.alloc (.cells #[.slice a0 m.rooms.length p0, .slice a1 m.guilds.length p1, .slice a2 m.smiths.length p2, .slice a3 m.desks.length p3, .slice a4 m.paces.length p4, .int .i64 m.now] 63)).alloc (.cells #[.slice none 0 0, .slice none 0 0, .slice none 0 0, .slice none 0 0, .slice none 0 0, .int .i64 0] 32)).alloc (.cells #[.slice none 0 0, .slice none 0 0, .slice none 0 0, .slice none 0 0, .slice none 0 0, .int .i64 0] 32)) (w.heap.size + 1) 32 #[.slice none 0 0, .slice none 0 0, .slice none 0 0, .slice none 0 0, .slice none 0 0, .int .i64 0]) := hide (by
    have k := Blk.new (w.alloc (.cells #[.slice a0 m.rooms.length p0, .slice a1 m.guilds.length p1, .slice a2 m.smiths.length p2, .slice a3 m.desks.length p3, .slice a4 m.paces.length p4, .int .i64 m.now] 63)) 32 #[.slice none 0 0, .slice none 0 0, .slice none 0 0, .slice none 0 0, .slice none 0 0, .int .i64 0]
    rw [World.size_alloc] at k
    exact k.alloc _)
  have ko : Hid (Blk (((w.alloc (.cells #[.slice a0 m.rooms.length p0, .slice a1 m.guilds.length p1, .slice a2 m.smiths.length p2, .slice a3 m.desks.length p3, .slice a4 m.paces.length p4, .int .i64 m.now] 63)).alloc (.cells #[.slice none 0 0, .slice none 0 0, .slice none 0 0, .slice none 0 0, .slice none 0 0, .int .i64 0] 32)).alloc (.cells #[.slice none 0 0, .slice none 0 0, .slice none 0 0, .slice none 0 0, .slice none 0 0, .int .i64 0] 32)) (w.heap.size + 1 + 1) 32 #[.slice none 0 0, .slice none 0 0, .slice none 0 0, .slice none 0 0, .slice none 0 0, .int .i64 0]) := hide (by
    have k := Blk.new ((w.alloc (.cells #[.slice a0 m.rooms.length p0, .slice a1 m.guilds.length p1, .slice a2 m.smiths.length p2, .slice a3 m.desks.length p3, .slice a4 m.paces.length p4, .int .i64 m.now] 63)).alloc (.cells #[.slice none 0 0, .slice none 0 0, .slice none 0 0, .slice none 0 0, .slice none 0 0, .int .i64 0] 32)) 32 #[.slice none 0 0, .slice none 0 0, .slice none 0 0, .slice none 0 0, .slice none 0 0, .int .i64 0]
    rw [World.size_alloc, World.size_alloc] at k
    exact k)
  generalize ((w.alloc (.cells #[.slice a0 m.rooms.length p0, .slice a1 m.guilds.length p1, .slice a2 m.smiths.length p2, .slice a3 m.desks.length p3, .slice a4 m.paces.length p4, .int .i64 m.now] 63)).alloc (.cells #[.slice none 0 0, .slice none 0 0, .slice none 0 0, .slice none 0 0, .slice none 0 0, .int .i64 0] 32)).alloc (.cells #[.slice none 0 0, .slice none 0 0, .slice none 0 0, .slice none 0 0, .slice none 0 0, .int .i64 0] 32) = W at *
  have hW : w.heap.size + 3 ≤ W.heap.size := by have := (unhide ko).lt; omega
  refine (toHall_full ((unhide Hv).below (unhide BB)).rooms (unhide Hs).rooms).mono ?_
  rintro e w1 ⟨u0, qs, rfl, hmap, hp, hb⟩
  have Hmap := hide hmap
  clear hmap
  have n0 : Hid (OwnHall (w.heap.size + 3) w1 u0 qs) := hide (hp.mono hW)
  replace ka := hide ((unhide ka).below hb (unhide ka).lt)
  replace kr := hide ((unhide kr).below hb (unhide kr).lt)
  replace ko := hide ((unhide ko).below hb (unhide ko).lt)
  replace BB := hide ((unhide BB).trans (hb.mono (unhide BB).size))
  have hW2 : w.heap.size + 3 ≤ w1.heap.size := by have := hb.size; omega
  obtain ⟨b0, q0, rfl⟩ := hp.shape
  have hql : qs.length = m.rooms.length := by rw [← unhide Hmap, List.length_map]
  rw [hql] at n0 ⊢
  have L0 : Hid (∀ b, ((Value.slice b0 m.rooms.length q0).ownBlock = some b ∨ ∃ q ∈ qs, q.2.ownBlock = some b) → b < w1.heap.size) := hide (fun b e => ((unhide n0).lt e).2)
  clear hp hql
  obtain ⟨s0, hs0⟩ : ∃ s, s = w1.heap.size := ⟨_, rfl⟩
  rw [← hs0] at L0
  have g0 : s0 ≤ w1.heap.size := Nat.le_of_eq hs0
  clear hs0
  clear hb
  have o0 := (unhide ko).cell (i := 0) (v := .slice none 0 0) rfl
  have f0 := (unhide ko).free 0
  have c1 := (unhide ka).cell (i := 1) (v := .slice a1 m.guilds.length p1) rfl
  go_wp2_with fail
  replace ka : Hid (Blk (w1.setCell ⟨w.heap.size + 1 + 1, 0, none⟩ (.slice b0 m.rooms.length q0)) w.heap.size 63 #[.slice a0 m.rooms.length p0, .slice a1 m.guilds.length p1, .slice a2 m.smiths.length p2, .slice a3 m.desks.length p3, .slice a4 m.paces.length p4, .int .i64 m.now]) := hide ((unhide ka).other (a := ⟨w.heap.size + 1 + 1, 0, none⟩) (by show w.heap.size ≠ w.heap.size + 1 + 1; omega) _)
  replace kr : Hid (Blk (w1.setCell ⟨w.heap.size + 1 + 1, 0, none⟩ (.slice b0 m.rooms.length q0)) (w.heap.size + 1) 32 #[.slice none 0 0, .slice none 0 0, .slice none 0 0, .slice none 0 0, .slice none 0 0, .int .i64 0]) := hide ((unhide kr).other (a := ⟨w.heap.size + 1 + 1, 0, none⟩) (by show w.heap.size + 1 ≠ w.heap.size + 1 + 1; omega) _)
  replace ko : Hid (Blk (w1.setCell ⟨w.heap.size + 1 + 1, 0, none⟩ (.slice b0 m.rooms.length q0)) (w.heap.size + 1 + 1) 32 #[.slice b0 m.rooms.length q0, .slice none 0 0, .slice none 0 0, .slice none 0 0, .slice none 0 0, .int .i64 0]) := hide ((unhide ko).set 0 _)
  replace n0 := hide ((unhide n0).set_old (w.heap.size + 1 + 1) 0 (.slice b0 m.rooms.length q0) (by omega))
  replace BB : Hid (Below w.heap.size w (w1.setCell ⟨w.heap.size + 1 + 1, 0, none⟩ (.slice b0 m.rooms.length q0))) := hide ((unhide BB).setCell (p := ⟨w.heap.size + 1 + 1, 0, none⟩) (by show w.heap.size ≤ w.heap.size + 1 + 1; omega) _)
  have hW3 : w.heap.size + 3 ≤ (w1.setCell ⟨w.heap.size + 1 + 1, 0, none⟩ (.slice b0 m.rooms.length q0)).heap.size := by have := (unhide ko).lt; omega
  replace g0 : s0 ≤ (w1.setCell ⟨w.heap.size + 1 + 1, 0, none⟩ (.slice b0 m.rooms.length q0)).heap.size := by simpa using g0
  clear o0 f0 c1 hW hW2
  generalize (w1.setCell ⟨w.heap.size + 1 + 1, 0, none⟩ (.slice b0 m.rooms.length q0)) = W at *
  have hW := hW3
  clear hW3
  refine (toGuildS_any ((unhide Hv).below (unhide BB)).guilds (unhide Hs).guilds).mono ?_
  rintro e w2 ⟨u1, rfl, hp, hb⟩
  have n1 : Hid (GuildsAt (w.heap.size + 3) w2 u1 m.guilds) := hide (RecAt.mono hp hW)
  replace n0 := hide ((unhide n0).later hb)
  replace ka := hide ((unhide ka).below hb (unhide ka).lt)
  replace kr := hide ((unhide kr).below hb (unhide kr).lt)
  replace ko := hide ((unhide ko).below hb (unhide ko).lt)
  replace BB := hide ((unhide BB).trans (hb.mono (unhide BB).size))
  have hW2 : w.heap.size + 3 ≤ w2.heap.size := by have := hb.size; omega
  obtain ⟨b1, q1, rfl⟩ := RecAt.shape hp
  have M1 : Hid (∀ b, (Value.slice b1 m.guilds.length q1).ownBlock = some b → s0 ≤ b ∧ b < w2.heap.size) := hide (fun b e => ⟨Nat.le_trans g0 (RecAt.lt hp e).1, (RecAt.lt hp e).2⟩)
  obtain ⟨s1, hs1⟩ : ∃ s, s = w2.heap.size := ⟨_, rfl⟩
  rw [← hs1] at M1
  have r1z : s0 ≤ s1 := by have := hb.size; omega
  clear g0
  have g1 : s1 ≤ w2.heap.size := Nat.le_of_eq hs1
  clear hs1
  clear hp hb
  have o1 := (unhide ko).cell (i := 1) (v := .slice none 0 0) rfl
  have f1 := (unhide ko).free 1
  have c2 := (unhide ka).cell (i := 2) (v := .slice a2 m.smiths.length p2) rfl
  go_wp2_with fail
  replace ka : Hid (Blk (w2.setCell ⟨w.heap.size + 1 + 1, 1, none⟩ (.slice b1 m.guilds.length q1)) w.heap.size 63 #[.slice a0 m.rooms.length p0, .slice a1 m.guilds.length p1, .slice a2 m.smiths.length p2, .slice a3 m.desks.length p3, .slice a4 m.paces.length p4, .int .i64 m.now]) := hide ((unhide ka).other (a := ⟨w.heap.size + 1 + 1, 1, none⟩) (by show w.heap.size ≠ w.heap.size + 1 + 1; omega) _)
  replace kr : Hid (Blk (w2.setCell ⟨w.heap.size + 1 + 1, 1, none⟩ (.slice b1 m.guilds.length q1)) (w.heap.size + 1) 32 #[.slice none 0 0, .slice none 0 0, .slice none 0 0, .slice none 0 0, .slice none 0 0, .int .i64 0]) := hide ((unhide kr).other (a := ⟨w.heap.size + 1 + 1, 1, none⟩) (by show w.heap.size + 1 ≠ w.heap.size + 1 + 1; omega) _)
  replace ko : Hid (Blk (w2.setCell ⟨w.heap.size + 1 + 1, 1, none⟩ (.slice b1 m.guilds.length q1)) (w.heap.size + 1 + 1) 32 #[.slice b0 m.rooms.length q0, .slice b1 m.guilds.length q1, .slice none 0 0, .slice none 0 0, .slice none 0 0, .int .i64 0]) := hide ((unhide ko).set 1 _)
  replace n0 := hide ((unhide n0).set_old (w.heap.size + 1 + 1) 1 (.slice b1 m.guilds.length q1) (by omega))
  replace n1 := hide (RecAt.set_old (unhide n1) (w.heap.size + 1 + 1) 1 (.slice b1 m.guilds.length q1) (by omega))
  replace BB : Hid (Below w.heap.size w (w2.setCell ⟨w.heap.size + 1 + 1, 1, none⟩ (.slice b1 m.guilds.length q1))) := hide ((unhide BB).setCell (p := ⟨w.heap.size + 1 + 1, 1, none⟩) (by show w.heap.size ≤ w.heap.size + 1 + 1; omega) _)
  have hW3 : w.heap.size + 3 ≤ (w2.setCell ⟨w.heap.size + 1 + 1, 1, none⟩ (.slice b1 m.guilds.length q1)).heap.size := by have := (unhide ko).lt; omega
  replace g1 : s1 ≤ (w2.setCell ⟨w.heap.size + 1 + 1, 1, none⟩ (.slice b1 m.guilds.length q1)).heap.size := by simpa using g1
  clear o1 f1 c2 hW hW2
  generalize (w2.setCell ⟨w.heap.size + 1 + 1, 1, none⟩ (.slice b1 m.guilds.length q1)) = W at *
  have hW := hW3
  clear hW3
  refine (toSmithS_any ((unhide Hv).below (unhide BB)).smiths (unhide Hs).smiths).mono ?_
  rintro e w3 ⟨u2, rfl, hp, hb⟩
  have n2 : Hid (SmithsAt (w.heap.size + 3) w3 u2 m.smiths) := hide (RecAt.mono hp hW)
  replace n0 := hide ((unhide n0).later hb)
  replace n1 := hide (RecAt.later (unhide n1) hb)
  replace ka := hide ((unhide ka).below hb (unhide ka).lt)
  replace kr := hide ((unhide kr).below hb (unhide kr).lt)
  replace ko := hide ((unhide ko).below hb (unhide ko).lt)
  replace BB := hide ((unhide BB).trans (hb.mono (unhide BB).size))
  have hW2 : w.heap.size + 3 ≤ w3.heap.size := by have := hb.size; omega
  obtain ⟨b2, q2, rfl⟩ := RecAt.shape hp
  have M2 : Hid (∀ b, (Value.slice b2 m.smiths.length q2).ownBlock = some b → s1 ≤ b ∧ b < w3.heap.size) := hide (fun b e => ⟨Nat.le_trans g1 (RecAt.lt hp e).1, (RecAt.lt hp e).2⟩)
  obtain ⟨s2, hs2⟩ : ∃ s, s = w3.heap.size := ⟨_, rfl⟩
  rw [← hs2] at M2
  have r2z : s1 ≤ s2 := by have := hb.size; omega
  clear g1
  have g2 : s2 ≤ w3.heap.size := Nat.le_of_eq hs2
  clear hs2
  clear hp hb
  have o2 := (unhide ko).cell (i := 2) (v := .slice none 0 0) rfl
  have f2 := (unhide ko).free 2
  have c3 := (unhide ka).cell (i := 3) (v := .slice a3 m.desks.length p3) rfl
  go_wp2_with fail
  replace ka : Hid (Blk (w3.setCell ⟨w.heap.size + 1 + 1, 2, none⟩ (.slice b2 m.smiths.length q2)) w.heap.size 63 #[.slice a0 m.rooms.length p0, .slice a1 m.guilds.length p1, .slice a2 m.smiths.length p2, .slice a3 m.desks.length p3, .slice a4 m.paces.length p4, .int .i64 m.now]) := hide ((unhide ka).other (a := ⟨w.heap.size + 1 + 1, 2, none⟩) (by show w.heap.size ≠ w.heap.size + 1 + 1; omega) _)
  replace kr : Hid (Blk (w3.setCell ⟨w.heap.size + 1 + 1, 2, none⟩ (.slice b2 m.smiths.length q2)) (w.heap.size + 1) 32 #[.slice none 0 0, .slice none 0 0, .slice none 0 0, .slice none 0 0, .slice none 0 0, .int .i64 0]) := hide ((unhide kr).other (a := ⟨w.heap.size + 1 + 1, 2, none⟩) (by show w.heap.size + 1 ≠ w.heap.size + 1 + 1; omega) _)
  replace ko : Hid (Blk (w3.setCell ⟨w.heap.size + 1 + 1, 2, none⟩ (.slice b2 m.smiths.length q2)) (w.heap.size + 1 + 1) 32 #[.slice b0 m.rooms.length q0, .slice b1 m.guilds.length q1, .slice b2 m.smiths.length q2, .slice none 0 0, .slice none 0 0, .int .i64 0]) := hide ((unhide ko).set 2 _)
  replace n0 := hide ((unhide n0).set_old (w.heap.size + 1 + 1) 2 (.slice b2 m.smiths.length q2) (by omega))
  replace n1 := hide (RecAt.set_old (unhide n1) (w.heap.size + 1 + 1) 2 (.slice b2 m.smiths.length q2) (by omega))
  replace n2 := hide (RecAt.set_old (unhide n2) (w.heap.size + 1 + 1) 2 (.slice b2 m.smiths.length q2) (by omega))
  replace BB : Hid (Below w.heap.size w (w3.setCell ⟨w.heap.size + 1 + 1, 2, none⟩ (.slice b2 m.smiths.length q2))) := hide ((unhide BB).setCell (p := ⟨w.heap.size + 1 + 1, 2, none⟩) (by show w.heap.size ≤ w.heap.size + 1 + 1; omega) _)
  have hW3 : w.heap.size + 3 ≤ (w3.setCell ⟨w.heap.size + 1 + 1, 2, none⟩ (.slice b2 m.smiths.length q2)).heap.size := by have := (unhide ko).lt; omega
  replace g2 : s2 ≤ (w3.setCell ⟨w.heap.size + 1 + 1, 2, none⟩ (.slice b2 m.smiths.length q2)).heap.size := by simpa using g2
  clear o2 f2 c3 hW hW2
  generalize (w3.setCell ⟨w.heap.size + 1 + 1, 2, none⟩ (.slice b2 m.smiths.length q2)) = W at *
  have hW := hW3
  clear hW3
  refine (toDeskS_any ((unhide Hv).below (unhide BB)).desks (unhide Hs).desks).mono ?_
  rintro e w4 ⟨u3, rfl, hp, hb⟩
  have n3 : Hid (DesksAt (w.heap.size + 3) w4 u3 m.desks) := hide (RecAt.mono hp hW)
  replace n0 := hide ((unhide n0).later hb)
  replace n1 := hide (RecAt.later (unhide n1) hb)
  replace n2 := hide (RecAt.later (unhide n2) hb)
  replace ka := hide ((unhide ka).below hb (unhide ka).lt)
  replace kr := hide ((unhide kr).below hb (unhide kr).lt)
  replace ko := hide ((unhide ko).below hb (unhide ko).lt)
  replace BB := hide ((unhide BB).trans (hb.mono (unhide BB).size))
  have hW2 : w.heap.size + 3 ≤ w4.heap.size := by have := hb.size; omega
  obtain ⟨b3, q3, rfl⟩ := RecAt.shape hp
  have M3 : Hid (∀ b, (Value.slice b3 m.desks.length q3).ownBlock = some b → s2 ≤ b ∧ b < w4.heap.size) := hide (fun b e => ⟨Nat.le_trans g2 (RecAt.lt hp e).1, (RecAt.lt hp e).2⟩)
  obtain ⟨s3, hs3⟩ : ∃ s, s = w4.heap.size := ⟨_, rfl⟩
  rw [← hs3] at M3
  have r3z : s2 ≤ s3 := by have := hb.size; omega
  clear g2
  have g3 : s3 ≤ w4.heap.size := Nat.le_of_eq hs3
  clear hs3
  clear hp hb
  have o3 := (unhide ko).cell (i := 3) (v := .slice none 0 0) rfl
  have f3 := (unhide ko).free 3
  have c4 := (unhide ka).cell (i := 4) (v := .slice a4 m.paces.length p4) rfl
  go_wp2_with fail
  replace ka : Hid (Blk (w4.setCell ⟨w.heap.size + 1 + 1, 3, none⟩ (.slice b3 m.desks.length q3)) w.heap.size 63 #[.slice a0 m.rooms.length p0, .slice a1 m.guilds.length p1, .slice a2 m.smiths.length p2, .slice a3 m.desks.length p3, .slice a4 m.paces.length p4, .int .i64 m.now]) := hide ((unhide ka).other (a := ⟨w.heap.size + 1 + 1, 3, none⟩) (by show w.heap.size ≠ w.heap.size + 1 + 1; omega) _)
  replace kr : Hid (Blk (w4.setCell ⟨w.heap.size + 1 + 1, 3, none⟩ (.slice b3 m.desks.length q3)) (w.heap.size + 1) 32 #[.slice none 0 0, .slice none 0 0, .slice none 0 0, .slice none 0 0, .slice none 0 0, .int .i64 0]) := hide ((unhide kr).other (a := ⟨w.heap.size + 1 + 1, 3, none⟩) (by show w.heap.size + 1 ≠ w.heap.size + 1 + 1; omega) _)
  replace ko : Hid (Blk (w4.setCell ⟨w.heap.size + 1 + 1, 3, none⟩ (.slice b3 m.desks.length q3)) (w.heap.size + 1 + 1) 32 #[.slice b0 m.rooms.length q0, .slice b1 m.guilds.length q1, .slice b2 m.smiths.length q2, .slice b3 m.desks.length q3, .slice none 0 0, .int .i64 0]) := hide ((unhide ko).set 3 _)
  replace n0 := hide ((unhide n0).set_old (w.heap.size + 1 + 1) 3 (.slice b3 m.desks.length q3) (by omega))
  replace n1 := hide (RecAt.set_old (unhide n1) (w.heap.size + 1 + 1) 3 (.slice b3 m.desks.length q3) (by omega))
  replace n2 := hide (RecAt.set_old (unhide n2) (w.heap.size + 1 + 1) 3 (.slice b3 m.desks.length q3) (by omega))
  replace n3 := hide (RecAt.set_old (unhide n3) (w.heap.size + 1 + 1) 3 (.slice b3 m.desks.length q3) (by omega))
  replace BB : Hid (Below w.heap.size w (w4.setCell ⟨w.heap.size + 1 + 1, 3, none⟩ (.slice b3 m.desks.length q3))) := hide ((unhide BB).setCell (p := ⟨w.heap.size + 1 + 1, 3, none⟩) (by show w.heap.size ≤ w.heap.size + 1 + 1; omega) _)
  have hW3 : w.heap.size + 3 ≤ (w4.setCell ⟨w.heap.size + 1 + 1, 3, none⟩ (.slice b3 m.desks.length q3)).heap.size := by have := (unhide ko).lt; omega
  replace g3 : s3 ≤ (w4.setCell ⟨w.heap.size + 1 + 1, 3, none⟩ (.slice b3 m.desks.length q3)).heap.size := by simpa using g3
  clear o3 f3 c4 hW hW2
  generalize (w4.setCell ⟨w.heap.size + 1 + 1, 3, none⟩ (.slice b3 m.desks.length q3)) = W at *
  have hW := hW3
  clear hW3
  refine (toInt64S_any ((unhide Hv).below (unhide BB)).paces (unhide Hs).paces).mono ?_
  rintro e w5 ⟨u4, rfl, hp, hb⟩
  have n4 : Hid (NumsAt (w.heap.size + 3) w5 u4 m.paces) := hide (RecAt.mono hp hW)
  replace n0 := hide ((unhide n0).later hb)
  replace n1 := hide (RecAt.later (unhide n1) hb)
  replace n2 := hide (RecAt.later (unhide n2) hb)
  replace n3 := hide (RecAt.later (unhide n3) hb)
  replace ka := hide ((unhide ka).below hb (unhide ka).lt)
  replace kr := hide ((unhide kr).below hb (unhide kr).lt)
  replace ko := hide ((unhide ko).below hb (unhide ko).lt)
  replace BB := hide ((unhide BB).trans (hb.mono (unhide BB).size))
  have hW2 : w.heap.size + 3 ≤ w5.heap.size := by have := hb.size; omega
  obtain ⟨b4, q4, rfl⟩ := RecAt.shape hp
  have M4 : Hid (∀ b, (Value.slice b4 m.paces.length q4).ownBlock = some b → s3 ≤ b ∧ b < w5.heap.size) := hide (fun b e => ⟨Nat.le_trans g3 (RecAt.lt hp e).1, (RecAt.lt hp e).2⟩)
  obtain ⟨s4, hs4⟩ : ∃ s, s = w5.heap.size := ⟨_, rfl⟩
  rw [← hs4] at M4
  have r4z : s3 ≤ s4 := by have := hb.size; omega
  clear g3
  have g4 : s4 ≤ w5.heap.size := Nat.le_of_eq hs4
  clear hs4
  clear hp hb
  have o4 := (unhide ko).cell (i := 4) (v := .slice none 0 0) rfl
  have f4 := (unhide ko).free 4
  have o0 := (unhide ko).cell (i := 0) (v := .slice b0 m.rooms.length q0) rfl
  have r0 := (unhide kr).cell (i := 0) (v := .slice none 0 0) rfl
  have rf0 := (unhide kr).free 0
  have o1 := (unhide ko).cell (i := 1) (v := .slice b1 m.guilds.length q1) rfl
  have r1 := (unhide kr).cell (i := 1) (v := .slice none 0 0) rfl
  have rf1 := (unhide kr).free 1
  have o2 := (unhide ko).cell (i := 2) (v := .slice b2 m.smiths.length q2) rfl
  have r2 := (unhide kr).cell (i := 2) (v := .slice none 0 0) rfl
  have rf2 := (unhide kr).free 2
  have o3 := (unhide ko).cell (i := 3) (v := .slice b3 m.desks.length q3) rfl
  have r3 := (unhide kr).cell (i := 3) (v := .slice none 0 0) rfl
  have rf3 := (unhide kr).free 3
  have r4 := (unhide kr).cell (i := 4) (v := .slice none 0 0) rfl
  have rf4 := (unhide kr).free 4
  have o5 := (unhide ko).cell (i := 5) (v := .int .i64 0) rfl
  have r5 := (unhide kr).cell (i := 5) (v := .int .i64 0) rfl
  have rf5 := (unhide kr).free 5
  have f5 := (unhide ko).free 5
  have c5 := (unhide ka).cell (i := 5) (v := .int .i64 m.now) rfl
  go_wp2_with fail
  refine bodyPost_ret (v := .agg #[.slice b0 m.rooms.length q0, .slice b1 m.guilds.length q1, .slice b2 m.smiths.length q2, .slice b3 m.desks.length q3, .slice b4 m.paces.length q4, .int .i64 m.now]) (by simp [results, Tryz.results30, go_sem, r0, r1, r2, r3, r4, r5]) rfl ⟨_, _, _, _, _, qs, rfl, ?_, ?_⟩
  · refine FullSmy.mono ?_ (show w.heap.size ≤ w.heap.size + 3 by omega)
    iterate 8 (refine FullSmy.set ?_ _ _ _ (by omega))
    have H0 : ∀ {u : Value} {k : Nat}, s0 ≤ k → (∀ b, u.ownBlock = some b → k ≤ b) → OffHall u (.slice b0 m.rooms.length q0) qs := fun hk hu => ⟨off_of (k := s0) (fun b e => Nat.le_trans hk (hu b e)) (fun b e => unhide L0 b (.inl e)), fun q hq => off_of (k := s0) (fun b e => Nat.le_trans hk (hu b e)) (fun b e => unhide L0 b (.inr ⟨q, hq, e⟩))⟩
    exact ⟨unhide n0, unhide Hmap, unhide n1, unhide n2, unhide n3, unhide n4, H0 (k := s0) (Nat.le_refl _) (fun b e => (unhide M1 b e).1), H0 (k := s1) (by omega) (fun b e => (unhide M2 b e).1), H0 (k := s2) (by omega) (fun b e => (unhide M3 b e).1), H0 (k := s3) (by omega) (fun b e => (unhide M4 b e).1),
      (off_of (k := s1) (fun b e => (unhide M2 b e).1) (fun b e => (unhide M1 b e).2)).symm, (off_of (k := s1) (fun b e => by have := (unhide M3 b e).1; omega) (fun b e => (unhide M1 b e).2)).symm, (off_of (k := s1) (fun b e => by have := (unhide M4 b e).1; omega) (fun b e => (unhide M1 b e).2)).symm,
      (off_of (k := s2) (fun b e => (unhide M3 b e).1) (fun b e => (unhide M2 b e).2)).symm, (off_of (k := s2) (fun b e => by have := (unhide M4 b e).1; omega) (fun b e => (unhide M2 b e).2)).symm, (off_of (k := s3) (fun b e => (unhide M4 b e).1) (fun b e => (unhide M3 b e).2)).symm⟩
  · iterate 8 (refine Below.setCell ?_ (by first | (show _ ≤ w.heap.size + 1 + 1; omega) | (show _ ≤ w.heap.size + 1; omega)) _)
    exact unhide BB

end Go.Proofs.YtmhagllddhjgmaaGreat

