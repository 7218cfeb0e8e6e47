/- Part 18 of what the proof rests on. No condition but those that a theorem names. -/
import Derived.Test.YtgdpaigcmoifbaaGreatXe12
import Derived.Test.YtgdpaigcmoifbaaGreatXe14
import Derived.Deep.DeepCutAuto
set_option maxHeartbeats 8000000
set_option maxRecDepth 100000
namespace Go.Proofs.YtgdpaigcmoifbaaGreat
open Go.ChangeShapes Go.WideShapes Go.ChangeAt Go.RowKit Go.Sort Go.Proofs.Tryz
set_option linter.unusedVariables false
def Off2 (u v : Value) : Prop := ∀ b, u.ownBlock = some b → v.ownBlock ≠ some b
theorem Off2.symm {u v : Value} (h : Off2 u v) : Off2 v u := fun b e e' => h b e' e
def OffHall (u v : Value) (qs : List (RoomV × Value)) : Prop := Off2 u v ∧ ∀ q ∈ qs, Off2 u q.2
structure FullSmy (n₀ : Nat) (w : World) (v0 v1 v2 v3 v4 : Value) (m : SmyV) (qs : List (RoomV × Value)) : Prop where
 hall : OwnHall n₀ w v0 qs
 rooms : qs.map (·.1) = m.rooms
 guilds : GuildsAt n₀ w v1 m.guilds
 smiths : SmithsAt n₀ w v2 m.smiths
 desks : DesksAt n₀ w v3 m.desks
 paces : NumsAt n₀ w v4 m.paces
 h1 : OffHall v1 v0 qs
 h2 : OffHall v2 v0 qs
 h3 : OffHall v3 v0 qs
 h4 : OffHall v4 v0 qs
 a12 : Off2 v1 v2
 a13 : Off2 v1 v3
 a14 : Off2 v1 v4
 a23 : Off2 v2 v3
 a24 : Off2 v2 v4
 a34 : Off2 v3 v4
theorem FullSmy.smy {n₀ : Nat} {w : World} {v0 v1 v2 v3 v4 : Value} {m : SmyV} {qs : List (RoomV × Value)} (h : FullSmy n₀ w v0 v1 v2 v3 v4 m qs) : Smy w v0 v1 v2 v3 v4 m :=
 ⟨by rw [← h.rooms]; exact h.hall.rooms, h.guilds.list, h.smiths.list, h.desks.list, h.paces.list⟩
theorem OwnHall.set_old {n₀ : Nat} {w : World} {v : Value} {qs : List (RoomV × Value)} (h : OwnHall n₀ w v qs) (g o : Nat) (u : Value) (hg : g < n₀) : OwnHall n₀ (w.setCell ⟨g, o, none⟩ u) v qs :=
 h.same fun k h0 hk => heap_setCell_other w _ k u (by show k ≠ g; omega)
theorem FullSmy.below {n₀ : Nat} {w w' : World} {v0 v1 v2 v3 v4 : Value} {m : SmyV} {qs : List (RoomV × Value)} (h : FullSmy n₀ w v0 v1 v2 v3 v4 m qs) (hb : Below w.heap.size w w') : FullSmy n₀ w' v0 v1 v2 v3 v4 m qs :=
 ⟨h.hall.later hb, h.rooms, RecAt.later h.guilds hb, RecAt.later h.smiths hb, RecAt.later h.desks hb, RecAt.later h.paces hb, h.h1, h.h2, h.h3, h.h4, h.a12, h.a13, h.a14, h.a23, h.a24, h.a34⟩
theorem FullSmy.set {n₀ : Nat} {w : World} {v0 v1 v2 v3 v4 : Value} {m : SmyV} {qs : List (RoomV × Value)} (h : FullSmy n₀ w v0 v1 v2 v3 v4 m qs) (g o : Nat) (u : Value) (hg : g < n₀) : FullSmy n₀ (w.setCell ⟨g, o, none⟩ u) v0 v1 v2 v3 v4 m qs :=
 ⟨h.hall.set_old g o u hg, h.rooms, RecAt.set_old h.guilds g o u hg, RecAt.set_old h.smiths g o u hg, RecAt.set_old h.desks g o u hg, RecAt.set_old h.paces g o u hg, h.h1, h.h2, h.h3, h.h4, h.a12, h.a13, h.a14, h.a23, h.a24, h.a34⟩
theorem FullSmy.mono {n₀ n₁ : Nat} {w : World} {v0 v1 v2 v3 v4 : Value} {m : SmyV} {qs : List (RoomV × Value)} (h : FullSmy n₀ w v0 v1 v2 v3 v4 m qs) (hn : n₁ ≤ n₀) : FullSmy n₁ w v0 v1 v2 v3 v4 m qs :=
 ⟨h.hall.mono hn, h.rooms, RecAt.mono h.guilds hn, RecAt.mono h.smiths hn, RecAt.mono h.desks hn, RecAt.mono h.paces hn, h.h1, h.h2, h.h3, h.h4, h.a12, h.a13, h.a14, h.a23, h.a24, h.a34⟩
theorem off_of {u v : Value} {k : Nat} (hu : ∀ b, u.ownBlock = some b → k ≤ b) (hv : ∀ b, v.ownBlock = some b → b < k) : Off2 u v := fun b e e' => by have := hu b e; have := hv b e'; omega
theorem toHall_full {w : World} {v : Value} {rs : List RoomV} (h : IsRooms w v rs) (hs : Small rs) :
  Calls prog 94 #[.agg #[v]] w fun e w' => ∃ v' qs, e = .returned (.agg #[v']) ∧ qs.map (·.1) = rs ∧ OwnHall w.heap.size w' v' qs ∧ Below w.heap.size w w' := by
 have Hv := hide h
 obtain ⟨a, cap, rfl, hc, hm, hr⟩ := h
 clear hr
 have Hb0 : Hid (∀ o1 o2 o3 : Obj, Below w.heap.size w (((w.alloc o1).alloc o2).alloc o3)) := hide (fun o1 o2 o3 => (((ba _ _)).alloc (by simp) _).alloc (by simp; omega) _)
 go_enter func94, ntmps94
 go_wp2_with fail
 refine (toRoomS_own ((uh Hv).below (uh Hb0 _ _ _)) hs).mono ?_
 rintro e w1 ⟨v', qs, rfl, hmap, hp, hb1⟩
 simp only [alWsa] at hp
 have hsz : w.heap.size + 3 ≤ w1.heap.size := by have := hb1.size; simp at this; omega
 obtain ⟨cc, ff⟩ := bcell hb1
 have x0 := cc (w.heap.size + 2) 0 (by simp)
 have y0 := cc (w.heap.size + 1) 0 (by simp)
 have fx0 := ff (w.heap.size + 2) 0 (by simp)
 have fy0 := ff (w.heap.size + 1) 0 (by simp)
 have Hp := hide hp
 have Hb1 := hide hb1
 obtain ⟨a', cap', rfl⟩ := hp.shape
 have hql : qs.length = rs.length := by rw [← hmap, List.length_map]
 have Hmap := hide hmap
 rw [hql] at Hp ⊢
 clear hp hmap hql
 clear cc ff hb1
 go_wp2_with fail
 have B1 : Below w.heap.size w w1 := (uh Hb0 _ _ _).trans ((uh Hb1).mono (by simp; omega))
 refine alBpr (v := .agg #[.slice a' rs.length cap']) (by simp [results, results94, go_sem, *]) rfl ⟨_, qs, rfl, uh Hmap, ?_, ?_⟩
 ·exact (((uh Hp).set_old _ _ _ (by omega)).set_old _ _ _ (by omega)).mono (by omega)
 ·exact (B1.setCell (by show _ ≤ w.heap.size + 1 + 1; omega) _).setCell (by show _ ≤ w.heap.size + 1; omega) _
theorem toSmithy_full {w : World} {v0 v1 v2 v3 v4 : Value} {m : SmyV} (h : Smy w v0 v1 v2 v3 v4 m) (hs : SmySmall m) :
  Calls prog 42 #[.agg #[v0, v1, v2, v3, v4, .int .i64 m.now]] w fun e w' => ∃ u0 u1 u2 u3 u4 qs, e = .returned (.agg #[u0, u1, u2, u3, u4, .int .i64 m.now]) ∧ FullSmy w.heap.size w' u0 u1 u2 u3 u4 m qs ∧ Below w.heap.size w w' := by
 have Hv := hide h
 have Hs := hide hs
 obtain ⟨a0, p0, rfl, _, _⟩ := IsRooms.shape h.rooms
 obtain ⟨a1, p1, rfl, hc1, hm1⟩ := IsRec.shape h.guilds
 obtain ⟨a2, p2, rfl, hc2, hm2⟩ := IsRec.shape h.smiths
 obtain ⟨a3, p3, rfl, hc3, hm3⟩ := IsRec.shape h.desks
 obtain ⟨a4, p4, rfl, hc4, hm4⟩ := IsRec.shape h.paces
 clear h hs
 go_enter func42, ntmps42
 go_wp2_with fail
 have BB : Hid (Below w.heap.size w (((w.alloc (.cells (S6 a0 p0 a1 p1 a2 p2 a3 p3 a4 p4 m) 64)).alloc (.cells E6 32)).alloc (.cells E6 32))) := hide ((((ba _ _)).alloc (by simp) _).alloc (by simp; omega) _)
 have ka : Hid (Blk (((w.alloc (.cells (S6 a0 p0 a1 p1 a2 p2 a3 p3 a4 p4 m) 64)).alloc (.cells E6 32)).alloc (.cells E6 32)) w.heap.size 64 (S6 a0 p0 a1 p1 a2 p2 a3 p3 a4 p4 m)) := hide (((Blk.new w _ _).alloc _).alloc _)
 have kr : Hid (Blk (((w.alloc (.cells (S6 a0 p0 a1 p1 a2 p2 a3 p3 a4 p4 m) 64)).alloc (.cells E6 32)).alloc (.cells E6 32)) (w.heap.size + 1) 32 E6) := hide (by
  have k := Blk.new (w.alloc (.cells (S6 a0 p0 a1 p1 a2 p2 a3 p3 a4 p4 m) 64)) 32 E6
  rw [alWsa] at k
  exact k.alloc _)
 have ko : Hid (Blk (((w.alloc (.cells (S6 a0 p0 a1 p1 a2 p2 a3 p3 a4 p4 m) 64)).alloc (.cells E6 32)).alloc (.cells E6 32)) (w.heap.size + 1 + 1) 32 E6) := hide (by
  have k := Blk.new ((w.alloc (.cells (S6 a0 p0 a1 p1 a2 p2 a3 p3 a4 p4 m) 64)).alloc (.cells E6 32)) 32 E6
  rw [alWsa, alWsa] at k
  exact k)
 generalize ((w.alloc (.cells (S6 a0 p0 a1 p1 a2 p2 a3 p3 a4 p4 m) 64)).alloc (.cells E6 32)).alloc (.cells E6 32) = W at *
 have hW : w.heap.size + 3 ≤ W.heap.size := by have := (uh ko).lt; omega
 refine (toHall_full ((uh Hv).below (uh BB)).rooms (uh Hs).rooms).mono ?_
 rintro e w1 ⟨u0, qs, rfl, hmap, hp, hb⟩
 have Hmap := hide hmap
 clear hmap
 have n0 : Hid (OwnHall (w.heap.size + 3) w1 u0 qs) := hide (hp.mono hW)
 replace ka := bl ka hb
 replace kr := bl kr hb
 replace ko := bl ko hb
 replace BB := bt BB hb
 have hW2 : w.heap.size + 3 ≤ w1.heap.size := by have := hb.size; omega
 obtain ⟨b0, q0, rfl⟩ := hp.shape
 have hql : qs.length = m.rooms.length := by rw [← uh Hmap, List.length_map]
 rw [hql] at n0 ⊢
 have L0 : Hid (∀ b, ((Value.slice b0 m.rooms.length q0).ownBlock = some b ∨ ∃ q ∈ qs, q.2.ownBlock = some b) → b < w1.heap.size) := hide (fun b e => ((uh n0).lt e).2)
 clear hp hql
 obtain ⟨s0, hs0⟩ : ∃ s, s = w1.heap.size := ⟨_, rfl⟩
 rw [← hs0] at L0
 have g0 : s0 ≤ w1.heap.size := Nat.le_of_eq hs0
 clear hs0
 clear hb
 have o0 := (uh ko).cell (i := 0) (v := .slice none 0 0) rfl
 have f0 := (uh ko).free 0
 have c1 := (uh ka).cell (i := 1) (v := .slice a1 m.guilds.length p1) rfl
 go_wp2_with fail
 replace ka : Hid (Blk (w1.setCell ⟨w.heap.size + 1 + 1, 0, none⟩ (.slice b0 m.rooms.length q0)) w.heap.size 64 (S6 a0 p0 a1 p1 a2 p2 a3 p3 a4 p4 m)) := hide ((uh ka).other (a := ⟨w.heap.size + 1 + 1, 0, none⟩) (by show w.heap.size ≠ w.heap.size + 1 + 1; omega) _)
 replace kr : Hid (Blk (w1.setCell ⟨w.heap.size + 1 + 1, 0, none⟩ (.slice b0 m.rooms.length q0)) (w.heap.size + 1) 32 E6) := hide ((uh kr).other (a := ⟨w.heap.size + 1 + 1, 0, none⟩) (by show w.heap.size + 1 ≠ w.heap.size + 1 + 1; omega) _)
 replace ko : Hid (Blk (w1.setCell ⟨w.heap.size + 1 + 1, 0, none⟩ (.slice b0 m.rooms.length q0)) (w.heap.size + 1 + 1) 32 #[.slice b0 m.rooms.length q0, .slice none 0 0, .slice none 0 0, .slice none 0 0, .slice none 0 0, .int .i64 0]) := hide ((uh ko).set 0 _)
 replace n0 := hide ((uh n0).set_old (w.heap.size + 1 + 1) 0 (.slice b0 m.rooms.length q0) (by omega))
 replace BB : Hid (Below w.heap.size w (w1.setCell ⟨w.heap.size + 1 + 1, 0, none⟩ (.slice b0 m.rooms.length q0))) := hide ((uh BB).setCell (p := ⟨w.heap.size + 1 + 1, 0, none⟩) (by show w.heap.size ≤ w.heap.size + 1 + 1; omega) _)
 have hW3 : w.heap.size + 3 ≤ (w1.setCell ⟨w.heap.size + 1 + 1, 0, none⟩ (.slice b0 m.rooms.length q0)).heap.size := by have := (uh ko).lt; omega
 replace g0 : s0 ≤ (w1.setCell ⟨w.heap.size + 1 + 1, 0, none⟩ (.slice b0 m.rooms.length q0)).heap.size := by simpa using g0
 clear o0 f0 c1 hW hW2
 generalize (w1.setCell ⟨w.heap.size + 1 + 1, 0, none⟩ (.slice b0 m.rooms.length q0)) = W at *
 have hW := hW3
 clear hW3
 refine (toGuildS_any ((uh Hv).below (uh BB)).guilds (uh Hs).guilds).mono ?_
 rintro e w2 ⟨u1, rfl, hp, hb⟩
 have n1 : Hid (GuildsAt (w.heap.size + 3) w2 u1 m.guilds) := hide (RecAt.mono hp hW)
 replace n0 := hide ((uh n0).later hb)
 replace ka := bl ka hb
 replace kr := bl kr hb
 replace ko := bl ko hb
 replace BB := bt BB hb
 have hW2 : w.heap.size + 3 ≤ w2.heap.size := by have := hb.size; omega
 obtain ⟨b1, q1, rfl⟩ := RecAt.shape hp
 have M1 : Hid (∀ b, (Value.slice b1 m.guilds.length q1).ownBlock = some b → s0 ≤ b ∧ b < w2.heap.size) := hide (fun b e => ⟨alNlt g0 (RecAt.lt hp e).1, (RecAt.lt hp e).2⟩)
 obtain ⟨s1, hs1⟩ : ∃ s, s = w2.heap.size := ⟨_, rfl⟩
 rw [← hs1] at M1
 have r1z : s0 ≤ s1 := by have := hb.size; omega
 clear g0
 have g1 : s1 ≤ w2.heap.size := Nat.le_of_eq hs1
 clear hs1
 clear hp hb
 have o1 := (uh ko).cell (i := 1) (v := .slice none 0 0) rfl
 have f1 := (uh ko).free 1
 have c2 := (uh ka).cell (i := 2) (v := .slice a2 m.smiths.length p2) rfl
 go_wp2_with fail
 replace ka : Hid (Blk (w2.setCell ⟨w.heap.size + 1 + 1, 1, none⟩ (.slice b1 m.guilds.length q1)) w.heap.size 64 (S6 a0 p0 a1 p1 a2 p2 a3 p3 a4 p4 m)) := hide ((uh ka).other (a := ⟨w.heap.size + 1 + 1, 1, none⟩) (by show w.heap.size ≠ w.heap.size + 1 + 1; omega) _)
 replace kr : Hid (Blk (w2.setCell ⟨w.heap.size + 1 + 1, 1, none⟩ (.slice b1 m.guilds.length q1)) (w.heap.size + 1) 32 E6) := hide ((uh kr).other (a := ⟨w.heap.size + 1 + 1, 1, none⟩) (by show w.heap.size + 1 ≠ w.heap.size + 1 + 1; omega) _)
 replace ko : Hid (Blk (w2.setCell ⟨w.heap.size + 1 + 1, 1, none⟩ (.slice b1 m.guilds.length q1)) (w.heap.size + 1 + 1) 32 #[.slice b0 m.rooms.length q0, .slice b1 m.guilds.length q1, .slice none 0 0, .slice none 0 0, .slice none 0 0, .int .i64 0]) := hide ((uh ko).set 1 _)
 replace n0 := hide ((uh n0).set_old (w.heap.size + 1 + 1) 1 (.slice b1 m.guilds.length q1) (by omega))
 replace n1 := hide (RecAt.set_old (uh n1) (w.heap.size + 1 + 1) 1 (.slice b1 m.guilds.length q1) (by omega))
 replace BB : Hid (Below w.heap.size w (w2.setCell ⟨w.heap.size + 1 + 1, 1, none⟩ (.slice b1 m.guilds.length q1))) := hide ((uh BB).setCell (p := ⟨w.heap.size + 1 + 1, 1, none⟩) (by show w.heap.size ≤ w.heap.size + 1 + 1; omega) _)
 have hW3 : w.heap.size + 3 ≤ (w2.setCell ⟨w.heap.size + 1 + 1, 1, none⟩ (.slice b1 m.guilds.length q1)).heap.size := by have := (uh ko).lt; omega
 replace g1 : s1 ≤ (w2.setCell ⟨w.heap.size + 1 + 1, 1, none⟩ (.slice b1 m.guilds.length q1)).heap.size := by simpa using g1
 clear o1 f1 c2 hW hW2
 generalize (w2.setCell ⟨w.heap.size + 1 + 1, 1, none⟩ (.slice b1 m.guilds.length q1)) = W at *
 have hW := hW3
 clear hW3
 refine (toSmithS_any ((uh Hv).below (uh BB)).smiths (uh Hs).smiths).mono ?_
 rintro e w3 ⟨u2, rfl, hp, hb⟩
 have n2 : Hid (SmithsAt (w.heap.size + 3) w3 u2 m.smiths) := hide (RecAt.mono hp hW)
 replace n0 := hide ((uh n0).later hb)
 replace n1 := hide (RecAt.later (uh n1) hb)
 replace ka := bl ka hb
 replace kr := bl kr hb
 replace ko := bl ko hb
 replace BB := bt BB hb
 have hW2 : w.heap.size + 3 ≤ w3.heap.size := by have := hb.size; omega
 obtain ⟨b2, q2, rfl⟩ := RecAt.shape hp
 have M2 : Hid (∀ b, (Value.slice b2 m.smiths.length q2).ownBlock = some b → s1 ≤ b ∧ b < w3.heap.size) := hide (fun b e => ⟨alNlt g1 (RecAt.lt hp e).1, (RecAt.lt hp e).2⟩)
 obtain ⟨s2, hs2⟩ : ∃ s, s = w3.heap.size := ⟨_, rfl⟩
 rw [← hs2] at M2
 have r2z : s1 ≤ s2 := by have := hb.size; omega
 clear g1
 have g2 : s2 ≤ w3.heap.size := Nat.le_of_eq hs2
 clear hs2
 clear hp hb
 have o2 := (uh ko).cell (i := 2) (v := .slice none 0 0) rfl
 have f2 := (uh ko).free 2
 have c3 := (uh ka).cell (i := 3) (v := .slice a3 m.desks.length p3) rfl
 go_wp2_with fail
 replace ka : Hid (Blk (w3.setCell ⟨w.heap.size + 1 + 1, 2, none⟩ (.slice b2 m.smiths.length q2)) w.heap.size 64 (S6 a0 p0 a1 p1 a2 p2 a3 p3 a4 p4 m)) := hide ((uh ka).other (a := ⟨w.heap.size + 1 + 1, 2, none⟩) (by show w.heap.size ≠ w.heap.size + 1 + 1; omega) _)
 replace kr : Hid (Blk (w3.setCell ⟨w.heap.size + 1 + 1, 2, none⟩ (.slice b2 m.smiths.length q2)) (w.heap.size + 1) 32 E6) := hide ((uh kr).other (a := ⟨w.heap.size + 1 + 1, 2, none⟩) (by show w.heap.size + 1 ≠ w.heap.size + 1 + 1; omega) _)
 replace ko : Hid (Blk (w3.setCell ⟨w.heap.size + 1 + 1, 2, none⟩ (.slice b2 m.smiths.length q2)) (w.heap.size + 1 + 1) 32 #[.slice b0 m.rooms.length q0, .slice b1 m.guilds.length q1, .slice b2 m.smiths.length q2, .slice none 0 0, .slice none 0 0, .int .i64 0]) := hide ((uh ko).set 2 _)
 replace n0 := hide ((uh n0).set_old (w.heap.size + 1 + 1) 2 (.slice b2 m.smiths.length q2) (by omega))
 replace n1 := hide (RecAt.set_old (uh n1) (w.heap.size + 1 + 1) 2 (.slice b2 m.smiths.length q2) (by omega))
 replace n2 := hide (RecAt.set_old (uh n2) (w.heap.size + 1 + 1) 2 (.slice b2 m.smiths.length q2) (by omega))
 replace BB : Hid (Below w.heap.size w (w3.setCell ⟨w.heap.size + 1 + 1, 2, none⟩ (.slice b2 m.smiths.length q2))) := hide ((uh BB).setCell (p := ⟨w.heap.size + 1 + 1, 2, none⟩) (by show w.heap.size ≤ w.heap.size + 1 + 1; omega) _)
 have hW3 : w.heap.size + 3 ≤ (w3.setCell ⟨w.heap.size + 1 + 1, 2, none⟩ (.slice b2 m.smiths.length q2)).heap.size := by have := (uh ko).lt; omega
 replace g2 : s2 ≤ (w3.setCell ⟨w.heap.size + 1 + 1, 2, none⟩ (.slice b2 m.smiths.length q2)).heap.size := by simpa using g2
 clear o2 f2 c3 hW hW2
 generalize (w3.setCell ⟨w.heap.size + 1 + 1, 2, none⟩ (.slice b2 m.smiths.length q2)) = W at *
 have hW := hW3
 clear hW3
 refine (toDeskS_any ((uh Hv).below (uh BB)).desks (uh Hs).desks).mono ?_
 rintro e w4 ⟨u3, rfl, hp, hb⟩
 have n3 : Hid (DesksAt (w.heap.size + 3) w4 u3 m.desks) := hide (RecAt.mono hp hW)
 replace n0 := hide ((uh n0).later hb)
 replace n1 := hide (RecAt.later (uh n1) hb)
 replace n2 := hide (RecAt.later (uh n2) hb)
 replace ka := bl ka hb
 replace kr := bl kr hb
 replace ko := bl ko hb
 replace BB := bt BB hb
 have hW2 : w.heap.size + 3 ≤ w4.heap.size := by have := hb.size; omega
 obtain ⟨b3, q3, rfl⟩ := RecAt.shape hp
 have M3 : Hid (∀ b, (Value.slice b3 m.desks.length q3).ownBlock = some b → s2 ≤ b ∧ b < w4.heap.size) := hide (fun b e => ⟨alNlt g2 (RecAt.lt hp e).1, (RecAt.lt hp e).2⟩)
 obtain ⟨s3, hs3⟩ : ∃ s, s = w4.heap.size := ⟨_, rfl⟩
 rw [← hs3] at M3
 have r3z : s2 ≤ s3 := by have := hb.size; omega
 clear g2
 have g3 : s3 ≤ w4.heap.size := Nat.le_of_eq hs3
 clear hs3
 clear hp hb
 have o3 := (uh ko).cell (i := 3) (v := .slice none 0 0) rfl
 have f3 := (uh ko).free 3
 have c4 := (uh ka).cell (i := 4) (v := .slice a4 m.paces.length p4) rfl
 go_wp2_with fail
 replace ka : Hid (Blk (w4.setCell ⟨w.heap.size + 1 + 1, 3, none⟩ (.slice b3 m.desks.length q3)) w.heap.size 64 (S6 a0 p0 a1 p1 a2 p2 a3 p3 a4 p4 m)) := hide ((uh ka).other (a := ⟨w.heap.size + 1 + 1, 3, none⟩) (by show w.heap.size ≠ w.heap.size + 1 + 1; omega) _)
 replace kr : Hid (Blk (w4.setCell ⟨w.heap.size + 1 + 1, 3, none⟩ (.slice b3 m.desks.length q3)) (w.heap.size + 1) 32 E6) := hide ((uh kr).other (a := ⟨w.heap.size + 1 + 1, 3, none⟩) (by show w.heap.size + 1 ≠ w.heap.size + 1 + 1; omega) _)
 replace ko : Hid (Blk (w4.setCell ⟨w.heap.size + 1 + 1, 3, none⟩ (.slice b3 m.desks.length q3)) (w.heap.size + 1 + 1) 32 #[.slice b0 m.rooms.length q0, .slice b1 m.guilds.length q1, .slice b2 m.smiths.length q2, .slice b3 m.desks.length q3, .slice none 0 0, .int .i64 0]) := hide ((uh ko).set 3 _)
 replace n0 := hide ((uh n0).set_old (w.heap.size + 1 + 1) 3 (.slice b3 m.desks.length q3) (by omega))
 replace n1 := hide (RecAt.set_old (uh n1) (w.heap.size + 1 + 1) 3 (.slice b3 m.desks.length q3) (by omega))
 replace n2 := hide (RecAt.set_old (uh n2) (w.heap.size + 1 + 1) 3 (.slice b3 m.desks.length q3) (by omega))
 replace n3 := hide (RecAt.set_old (uh n3) (w.heap.size + 1 + 1) 3 (.slice b3 m.desks.length q3) (by omega))
 replace BB : Hid (Below w.heap.size w (w4.setCell ⟨w.heap.size + 1 + 1, 3, none⟩ (.slice b3 m.desks.length q3))) := hide ((uh BB).setCell (p := ⟨w.heap.size + 1 + 1, 3, none⟩) (by show w.heap.size ≤ w.heap.size + 1 + 1; omega) _)
 have hW3 : w.heap.size + 3 ≤ (w4.setCell ⟨w.heap.size + 1 + 1, 3, none⟩ (.slice b3 m.desks.length q3)).heap.size := by have := (uh ko).lt; omega
 replace g3 : s3 ≤ (w4.setCell ⟨w.heap.size + 1 + 1, 3, none⟩ (.slice b3 m.desks.length q3)).heap.size := by simpa using g3
 clear o3 f3 c4 hW hW2
 generalize (w4.setCell ⟨w.heap.size + 1 + 1, 3, none⟩ (.slice b3 m.desks.length q3)) = W at *
 have hW := hW3
 clear hW3
 refine (toInt64S_any ((uh Hv).below (uh BB)).paces (uh Hs).paces).mono ?_
 rintro e w5 ⟨u4, rfl, hp, hb⟩
 have n4 : Hid (NumsAt (w.heap.size + 3) w5 u4 m.paces) := hide (RecAt.mono hp hW)
 replace n0 := hide ((uh n0).later hb)
 replace n1 := hide (RecAt.later (uh n1) hb)
 replace n2 := hide (RecAt.later (uh n2) hb)
 replace n3 := hide (RecAt.later (uh n3) hb)
 replace ka := bl ka hb
 replace kr := bl kr hb
 replace ko := bl ko hb
 replace BB := bt BB hb
 have hW2 : w.heap.size + 3 ≤ w5.heap.size := by have := hb.size; omega
 obtain ⟨b4, q4, rfl⟩ := RecAt.shape hp
 have M4 : Hid (∀ b, (Value.slice b4 m.paces.length q4).ownBlock = some b → s3 ≤ b ∧ b < w5.heap.size) := hide (fun b e => ⟨alNlt g3 (RecAt.lt hp e).1, (RecAt.lt hp e).2⟩)
 obtain ⟨s4, hs4⟩ : ∃ s, s = w5.heap.size := ⟨_, rfl⟩
 rw [← hs4] at M4
 have r4z : s3 ≤ s4 := by have := hb.size; omega
 clear g3
 have g4 : s4 ≤ w5.heap.size := Nat.le_of_eq hs4
 clear hs4
 clear hp hb
 have o4 := (uh ko).cell (i := 4) (v := .slice none 0 0) rfl
 have f4 := (uh ko).free 4
 have o0 := (uh ko).cell (i := 0) (v := .slice b0 m.rooms.length q0) rfl
 have r0 := (uh kr).cell (i := 0) (v := .slice none 0 0) rfl
 have rf0 := (uh kr).free 0
 have o1 := (uh ko).cell (i := 1) (v := .slice b1 m.guilds.length q1) rfl
 have r1 := (uh kr).cell (i := 1) (v := .slice none 0 0) rfl
 have rf1 := (uh kr).free 1
 have o2 := (uh ko).cell (i := 2) (v := .slice b2 m.smiths.length q2) rfl
 have r2 := (uh kr).cell (i := 2) (v := .slice none 0 0) rfl
 have rf2 := (uh kr).free 2
 have o3 := (uh ko).cell (i := 3) (v := .slice b3 m.desks.length q3) rfl
 have r3 := (uh kr).cell (i := 3) (v := .slice none 0 0) rfl
 have rf3 := (uh kr).free 3
 have r4 := (uh kr).cell (i := 4) (v := .slice none 0 0) rfl
 have rf4 := (uh kr).free 4
 have o5 := (uh ko).cell (i := 5) (v := .int .i64 0) rfl
 have r5 := (uh kr).cell (i := 5) (v := .int .i64 0) rfl
 have rf5 := (uh kr).free 5
 have f5 := (uh ko).free 5
 have c5 := (uh ka).cell (i := 5) (v := .int .i64 m.now) rfl
 go_wp2_with fail
 refine alBpr (v := .agg (S6 b0 q0 b1 q1 b2 q2 b3 q3 b4 q4 m)) (by simp [results, results42, go_sem, r0, r1, r2, r3, r4, r5]) rfl ⟨_, _, _, _, _, qs, rfl, ?_, ?_⟩
 ·refine FullSmy.mono ?_ (show w.heap.size ≤ w.heap.size + 3 by omega)
  iterate 8 (refine FullSmy.set ?_ _ _ _ (by omega))
  have H0 : ∀ {u : Value} {k : Nat}, s0 ≤ k → (∀ b, u.ownBlock = some b → k ≤ b) → OffHall u (.slice b0 m.rooms.length q0) qs := fun hk hu => ⟨off_of (k := s0) (fun b e => alNlt hk (hu b e)) (fun b e => uh L0 b (.inl e)), fun q hq => off_of (k := s0) (fun b e => alNlt hk (hu b e)) (fun b e => uh L0 b (.inr ⟨q, hq, e⟩))⟩
  exact ⟨uh n0, uh Hmap, uh n1, uh n2, uh n3, uh n4, H0 (k := s0) (alNlr _) (fun b e => (uh M1 b e).1), H0 (k := s1) (by omega) (fun b e => (uh M2 b e).1), H0 (k := s2) (by omega) (fun b e => (uh M3 b e).1), H0 (k := s3) (by omega) (fun b e => (uh M4 b e).1),
   (off_of (k := s1) (fun b e => (uh M2 b e).1) (fun b e => (uh M1 b e).2)).symm, (off_of (k := s1) (fun b e => by have := (uh M3 b e).1; omega) (fun b e => (uh M1 b e).2)).symm, (off_of (k := s1) (fun b e => by have := (uh M4 b e).1; omega) (fun b e => (uh M1 b e).2)).symm,
   (off_of (k := s2) (fun b e => (uh M3 b e).1) (fun b e => (uh M2 b e).2)).symm, (off_of (k := s2) (fun b e => by have := (uh M4 b e).1; omega) (fun b e => (uh M2 b e).2)).symm, (off_of (k := s3) (fun b e => (uh M4 b e).1) (fun b e => (uh M3 b e).2)).symm⟩
 ·iterate 8 (refine alBsc ?_ (by first | (show _ ≤ w.heap.size + 1 + 1; omega) | (show _ ≤ w.heap.size + 1; omega)) _)
  exact uh BB
theorem tyG : RecTy 145 3 (.agg #[.int .i64 0, .int .i64 0, .int .i64 0]) encGuild := ⟨by kernel_rfl, rfl, encGuild_len, by omega, by omega, fun x u hu => by
 simp only [encGuild, List.mem_cons, List.not_mem_nil, or_false] at hu
 rcases hu with rfl | rfl | rfl <;> rfl⟩
theorem tyS : RecTy 38 11 (.agg E11) encSmith := ⟨by kernel_rfl, rfl, encSmith_len, by omega, by omega, fun x u hu => by
 simp only [encSmith, List.mem_cons, List.not_mem_nil, or_false] at hu
 rcases hu with rfl | rfl | rfl | rfl | rfl | rfl | rfl | rfl | rfl | rfl | rfl <;> rfl⟩
theorem tyD : RecTy 40 3 (.agg #[.bool false, .int .i64 0, .int .i64 0]) encDesk := ⟨by kernel_rfl, rfl, encDesk_len, by omega, by omega, fun x u hu => by
 simp only [encDesk, List.mem_cons, List.not_mem_nil, or_false] at hu
 rcases hu with rfl | rfl | rfl <;> rfl⟩
theorem tyN : RecTy 2 1 (.int .i64 0) encNum := ⟨by kernel_rfl, rfl, encNum_len, by omega, by omega, fun x u hu => by
 simp only [encNum, List.mem_cons, List.not_mem_nil, or_false] at hu
 rcases hu with rfl <;> rfl⟩
structure Few (m : SmyV) : Prop where
 rooms : m.rooms.length ≤ 1000
 paces : ∀ r ∈ m.rooms, r.2.length ≤ 1000
 guilds : m.guilds.length ≤ 1000
 smiths : m.smiths.length ≤ 800
 desks : m.desks.length ≤ 1000
 nums : m.paces.length ≤ 1000
theorem full_of {n₀ : Nat} {w : World} {v0 v1 v2 v3 v4 : Value} {m : SmyV} {qs : List (RoomV × Value)} (s0 s1 s2 s3 : Nat) (hh : OwnHall n₀ w v0 qs) (hr : qs.map (·.1) = m.rooms) (hg : GuildsAt n₀ w v1 m.guilds) (hs : SmithsAt n₀ w v2 m.smiths) (hd : DesksAt n₀ w v3 m.desks) (hp : NumsAt n₀ w v4 m.paces)
  (l0 : ∀ b, (v0.ownBlock = some b ∨ ∃ q ∈ qs, q.2.ownBlock = some b) → b < s0) (l1 : ∀ b, v1.ownBlock = some b → s0 ≤ b ∧ b < s1) (l2 : ∀ b, v2.ownBlock = some b → s1 ≤ b ∧ b < s2) (l3 : ∀ b, v3.ownBlock = some b → s2 ≤ b ∧ b < s3) (l4 : ∀ b, v4.ownBlock = some b → s3 ≤ b) (h1 : s0 ≤ s1) (h2 : s1 ≤ s2) (h3 : s2 ≤ s3) :
  FullSmy n₀ w v0 v1 v2 v3 v4 m qs := by
 refine ⟨hh, hr, hg, hs, hd, hp, ⟨?_, ?_⟩, ⟨?_, ?_⟩, ⟨?_, ?_⟩, ⟨?_, ?_⟩, ?_, ?_, ?_, ?_, ?_, ?_⟩
 ·intro b e e'; have := (l1 b e).1; have := l0 b (.inl e'); omega
 ·intro q hq b e e'; have := (l1 b e).1; have := l0 b (.inr ⟨q, hq, e'⟩); omega
 ·intro b e e'; have := (l2 b e).1; have := l0 b (.inl e'); omega
 ·intro q hq b e e'; have := (l2 b e).1; have := l0 b (.inr ⟨q, hq, e'⟩); omega
 ·intro b e e'; have := (l3 b e).1; have := l0 b (.inl e'); omega
 ·intro q hq b e e'; have := (l3 b e).1; have := l0 b (.inr ⟨q, hq, e'⟩); omega
 ·intro b e e'; have := l4 b e; have := l0 b (.inl e'); omega
 ·intro q hq b e e'; have := l4 b e; have := l0 b (.inr ⟨q, hq, e'⟩); omega
 ·intro b e e'; have := l1 b e; have := l2 b e'; omega
 ·intro b e e'; have := l1 b e; have := l3 b e'; omega
 ·intro b e e'; have := l1 b e; have := l4 b e'; omega
 ·intro b e e'; have := l2 b e; have := l3 b e'; omega
 ·intro b e e'; have := l2 b e; have := l4 b e'; omega
 ·intro b e e'; have := l3 b e; have := l4 b e'; omega
theorem l8Copy_any {w : World} {v : Value} {ps : List GuildV} (h : IsGuilds w v ps) (hl : ps.length ≤ 1000) :
  Calls prog 138 #[v] w fun e w' => ∃ v', e = .returned v' ∧ GuildsAt w.heap.size w' v' ps ∧ Below w.heap.size w w' := by
 have Hv := hide h
 obtain ⟨a, cap, rfl, hc, hm, hr⟩ := h
 clear hr
 go_enter func138, ntmps138
 go_wp2_with (at_builtin; refine wpList_append_recs tyG rfl (.tmp 3) (.tmp 4) 27 underlying27 rfl w.heap.size _ _ [] ps rfl rfl (recs_empty rfl (alNlr _)) ((uh Hv).below ((ba _ _))) (by simp; omega) (by simp) ?_; intro v' w1 hown hgrow hat)
 go_ret
 refine ⟨v', rfl, by simpa using hown, ((ba _ _)).trans ((alBrf _ _).grown hgrow (by simp) (fun k e => ?_))⟩
 cases e; exact alNlr _
theorem l11Copy_any {w : World} {v0 v1 v2 v3 v4 : Value} {m : SmyV} (h : Smy w v0 v1 v2 v3 v4 m) (hF : Few m) :
  Calls prog 68 #[.agg #[v0, v1, v2, v3, v4, .int .i64 m.now]] w fun e w' => ∃ u0 u1 u2 u3 u4 qs, e = .returned (.agg #[u0, u1, u2, u3, u4, .int .i64 m.now]) ∧ FullSmy w.heap.size w' u0 u1 u2 u3 u4 m qs ∧ Below w.heap.size w w' := by
 have Hv := hide h
 have HF := hide hF
 obtain ⟨a0, p0, a1, p1, a2, p2, a3, p3, a4, p4, rfl, rfl, rfl, rfl, rfl, _, _, _, _, _, _, _, _, _, _⟩ := h.five
 clear h hF
 go_enter func68, ntmps68
 go_wp2_with fail
 obtain ⟨W, hW, kb, kr, BB⟩ := two_boxes w 32 (S6 a0 p0 a1 p1 a2 p2 a3 p3 a4 p4 m) 32 E6
 rw [hW]
 clear hW
 have hW : w.heap.size + 2 ≤ W.heap.size := by have := (uh kr).lt; omega
 refine (l4Copy_any ((uh Hv).below (uh BB)).rooms (uh HF).rooms (uh HF).paces).mono ?_
 rintro e w1 ⟨u0, qs, rfl, hmap, hp, hb⟩
 have Hmap := hide hmap
 clear hmap
 have n0 : Hid (OwnHall (w.heap.size + 2) w1 u0 qs) := hide (hp.mono hW)
 replace kb := bl kb hb
 replace kr := bl kr hb
 replace BB := bt BB hb
 have hW1 : w.heap.size + 2 ≤ w1.heap.size := by have := hb.size; omega
 obtain ⟨b0, q0, rfl⟩ := hp.shape
 have hql : qs.length = m.rooms.length := by rw [← uh Hmap, List.length_map]
 rw [hql] at n0 ⊢
 have L0 : Hid (∀ b, ((Value.slice b0 m.rooms.length q0).ownBlock = some b ∨ ∃ q ∈ qs, q.2.ownBlock = some b) → b < w1.heap.size) := hide (fun b e => ((uh n0).lt e).2)
 clear hp hql hb hW
 have o0 := (uh kb).cell (i := 0) (v := .slice a0 m.rooms.length p0) rfl
 have f0 := (uh kb).free 0
 go_upto_region 2 with fail
 clear o0 f0
 replace kb : Hid (Blk (w1.setCell ⟨w.heap.size, 0, none⟩ (.slice b0 m.rooms.length q0)) w.heap.size 32 (S6 b0 q0 a1 p1 a2 p2 a3 p3 a4 p4 m)) := hide ((uh kb).set 0 _)
 replace kr : Hid (Blk (w1.setCell ⟨w.heap.size, 0, none⟩ (.slice b0 m.rooms.length q0)) (w.heap.size + 1) 32 E6) := hide ((uh kr).other (a := ⟨w.heap.size, 0, none⟩) (by show w.heap.size + 1 ≠ w.heap.size; omega) _)
 replace BB : Hid (Below w.heap.size w (w1.setCell ⟨w.heap.size, 0, none⟩ (.slice b0 m.rooms.length q0))) := hide ((uh BB).setCell (p := ⟨w.heap.size, 0, none⟩) (alNlr _) _)
 replace n0 := hide ((uh n0).set_old w.heap.size 0 (.slice b0 m.rooms.length q0) (by omega))
 have g0 : w1.heap.size ≤ (w1.setCell ⟨w.heap.size, 0, none⟩ (.slice b0 m.rooms.length q0)).heap.size := by simp
 generalize w1.setCell ⟨w.heap.size, 0, none⟩ (.slice b0 m.rooms.length q0) = X0 at *
 have c1 := (uh kb).cell (i := 1) (v := .slice a1 m.guilds.length p1) rfl
 go_wp2_with fail
 clear c1
 refine (l8Copy_any ((uh Hv).below (uh BB)).guilds (uh HF).guilds).mono ?_
 rintro e w2 ⟨u1, rfl, hp, hb⟩
 have n1 : Hid (GuildsAt (w.heap.size + 2) w2 u1 m.guilds) := hide (RecAt.mono hp (by omega))
 have M1 : Hid (∀ b, u1.ownBlock = some b → w1.heap.size ≤ b ∧ b < w2.heap.size) := hide (fun b e => ⟨alNlt g0 (RecAt.lt hp e).1, (RecAt.lt hp e).2⟩)
 replace kb := bl kb hb
 replace kr := bl kr hb
 replace n0 := hide ((uh n0).later hb)
 replace BB := bt BB hb
 have z1 : w1.heap.size ≤ w2.heap.size := alNlt g0 hb.size
 obtain ⟨b1, q1, rfl⟩ := RecAt.shape hp
 clear hp hb
 have o1 := (uh kb).cell (i := 1) (v := .slice a1 m.guilds.length p1) rfl
 have f1 := (uh kb).free 1
 go_upto_region 3 with fail
 clear o1 f1
 replace kb : Hid (Blk (w2.setCell ⟨w.heap.size, 1, none⟩ (.slice b1 m.guilds.length q1)) w.heap.size 32 (S6 b0 q0 b1 q1 a2 p2 a3 p3 a4 p4 m)) := hide ((uh kb).set 1 _)
 replace kr : Hid (Blk (w2.setCell ⟨w.heap.size, 1, none⟩ (.slice b1 m.guilds.length q1)) (w.heap.size + 1) 32 E6) := hide ((uh kr).other (a := ⟨w.heap.size, 1, none⟩) (by show w.heap.size + 1 ≠ w.heap.size; omega) _)
 replace BB : Hid (Below w.heap.size w (w2.setCell ⟨w.heap.size, 1, none⟩ (.slice b1 m.guilds.length q1))) := hide ((uh BB).setCell (p := ⟨w.heap.size, 1, none⟩) (alNlr _) _)
 replace n0 := hide ((uh n0).set_old w.heap.size 1 (.slice b1 m.guilds.length q1) (by omega))
 replace n1 := hide (RecAt.set_old (uh n1) w.heap.size 1 (.slice b1 m.guilds.length q1) (by omega))
 have g1 : w2.heap.size ≤ (w2.setCell ⟨w.heap.size, 1, none⟩ (.slice b1 m.guilds.length q1)).heap.size := by simp
 generalize w2.setCell ⟨w.heap.size, 1, none⟩ (.slice b1 m.guilds.length q1) = X1 at *
 have c2 := (uh kb).cell (i := 2) (v := .slice a2 m.smiths.length p2) rfl
 have HX := hide (((uh Hv).below (uh BB)).smiths)
 have hl9 := (uh HF).smiths
 have hlt9 := (uh kb).lt
 go_upto_region 4 with (at_builtin; refine wpList_append_recs tyS rfl (.tmp 11) (.tmp 13) 28 underlying28 rfl X1.heap.size _ _ [] m.smiths rfl rfl (recs_empty rfl (alNlr _)) (IsRec.below (uh HX) ((ba _ _))) (by simp; omega) (by simp) ?_; intro u2 w3 hp9 hg9 hat9; rw [List.nil_append] at hp9; have hb9 : Below X1.heap.size X1 w3 := ((ba _ _)).trans ((alBrf _ _).grown hg9 (by simp) (fun k e => by cases e; exact alNlr _)); have k9 := (uh kb).below hb9 (uh kb).lt; have o9 := k9.cell (i := 2) (v := .slice a2 m.smiths.length p2) rfl; have f9 := k9.free 2; obtain ⟨a9, c9, hu9⟩ := RecAt.shape hp9; subst hu9; have hp := hide hp9; have hb := hide hb9; clear hp9 hb9 k9 hg9 hat9)
 clear c2 HX hl9 hlt9 o9 f9
 replace hp := uh hp
 replace hb := uh hb
 obtain ⟨u2, hu2⟩ : ∃ u, u = Value.slice a9 m.smiths.length c9 := ⟨_, rfl⟩
 rw [← hu2] at hp ⊢
 clear hu2
 have n2 : Hid (SmithsAt (w.heap.size + 2) w3 u2 m.smiths) := hide (RecAt.mono hp (by omega))
 have M2 : Hid (∀ b, u2.ownBlock = some b → w2.heap.size ≤ b ∧ b < w3.heap.size) := hide (fun b e => ⟨alNlt g1 (RecAt.lt hp e).1, (RecAt.lt hp e).2⟩)
 replace kb := bl kb hb
 replace kr := bl kr hb
 replace n0 := hide ((uh n0).later hb)
 replace n1 := hide (RecAt.later (uh n1) hb)
 replace BB := bt BB hb
 have z2 : w2.heap.size ≤ w3.heap.size := alNlt g1 hb.size
 obtain ⟨b2, q2, rfl⟩ := RecAt.shape hp
 clear hp hb
 replace kb : Hid (Blk (w3.setCell ⟨w.heap.size, 2, none⟩ (.slice b2 m.smiths.length q2)) w.heap.size 32 (S6 b0 q0 b1 q1 b2 q2 a3 p3 a4 p4 m)) := hide ((uh kb).set 2 _)
 replace kr : Hid (Blk (w3.setCell ⟨w.heap.size, 2, none⟩ (.slice b2 m.smiths.length q2)) (w.heap.size + 1) 32 E6) := hide ((uh kr).other (a := ⟨w.heap.size, 2, none⟩) (by show w.heap.size + 1 ≠ w.heap.size; omega) _)
 replace BB : Hid (Below w.heap.size w (w3.setCell ⟨w.heap.size, 2, none⟩ (.slice b2 m.smiths.length q2))) := hide ((uh BB).setCell (p := ⟨w.heap.size, 2, none⟩) (alNlr _) _)
 replace n0 := hide ((uh n0).set_old w.heap.size 2 (.slice b2 m.smiths.length q2) (by omega))
 replace n1 := hide (RecAt.set_old (uh n1) w.heap.size 2 (.slice b2 m.smiths.length q2) (by omega))
 replace n2 := hide (RecAt.set_old (uh n2) w.heap.size 2 (.slice b2 m.smiths.length q2) (by omega))
 have g2 : w3.heap.size ≤ (w3.setCell ⟨w.heap.size, 2, none⟩ (.slice b2 m.smiths.length q2)).heap.size := by simp
 generalize w3.setCell ⟨w.heap.size, 2, none⟩ (.slice b2 m.smiths.length q2) = X2 at *
 have c3 := (uh kb).cell (i := 3) (v := .slice a3 m.desks.length p3) rfl
 have HX := hide (((uh Hv).below (uh BB)).desks)
 have hl9 := (uh HF).desks
 have hlt9 := (uh kb).lt
 go_upto_region 5 with (at_builtin; refine wpList_append_recs tyD rfl (.tmp 16) (.tmp 18) 29 underlying29 rfl X2.heap.size _ _ [] m.desks rfl rfl (recs_empty rfl (alNlr _)) (IsRec.below (uh HX) ((ba _ _))) (by simp; omega) (by simp) ?_; intro u3 w4 hp9 hg9 hat9; rw [List.nil_append] at hp9; have hb9 : Below X2.heap.size X2 w4 := ((ba _ _)).trans ((alBrf _ _).grown hg9 (by simp) (fun k e => by cases e; exact alNlr _)); have k9 := (uh kb).below hb9 (uh kb).lt; have o9 := k9.cell (i := 3) (v := .slice a3 m.desks.length p3) rfl; have f9 := k9.free 3; obtain ⟨a9, c9, hu9⟩ := RecAt.shape hp9; subst hu9; have hp := hide hp9; have hb := hide hb9; clear hp9 hb9 k9 hg9 hat9)
 clear c3 HX hl9 hlt9 o9 f9
 replace hp := uh hp
 replace hb := uh hb
 obtain ⟨u3, hu3⟩ : ∃ u, u = Value.slice a9 m.desks.length c9 := ⟨_, rfl⟩
 rw [← hu3] at hp ⊢
 clear hu3
 have n3 : Hid (DesksAt (w.heap.size + 2) w4 u3 m.desks) := hide (RecAt.mono hp (by omega))
 have M3 : Hid (∀ b, u3.ownBlock = some b → w3.heap.size ≤ b ∧ b < w4.heap.size) := hide (fun b e => ⟨alNlt g2 (RecAt.lt hp e).1, (RecAt.lt hp e).2⟩)
 replace kb := bl kb hb
 replace kr := bl kr hb
 replace n0 := hide ((uh n0).later hb)
 replace n1 := hide (RecAt.later (uh n1) hb)
 replace n2 := hide (RecAt.later (uh n2) hb)
 replace BB := bt BB hb
 have z3 : w3.heap.size ≤ w4.heap.size := alNlt g2 hb.size
 obtain ⟨b3, q3, rfl⟩ := RecAt.shape hp
 clear hp hb
 replace kb : Hid (Blk (w4.setCell ⟨w.heap.size, 3, none⟩ (.slice b3 m.desks.length q3)) w.heap.size 32 (S6 b0 q0 b1 q1 b2 q2 b3 q3 a4 p4 m)) := hide ((uh kb).set 3 _)
 replace kr : Hid (Blk (w4.setCell ⟨w.heap.size, 3, none⟩ (.slice b3 m.desks.length q3)) (w.heap.size + 1) 32 E6) := hide ((uh kr).other (a := ⟨w.heap.size, 3, none⟩) (by show w.heap.size + 1 ≠ w.heap.size; omega) _)
 replace BB : Hid (Below w.heap.size w (w4.setCell ⟨w.heap.size, 3, none⟩ (.slice b3 m.desks.length q3))) := hide ((uh BB).setCell (p := ⟨w.heap.size, 3, none⟩) (alNlr _) _)
 replace n0 := hide ((uh n0).set_old w.heap.size 3 (.slice b3 m.desks.length q3) (by omega))
 replace n1 := hide (RecAt.set_old (uh n1) w.heap.size 3 (.slice b3 m.desks.length q3) (by omega))
 replace n2 := hide (RecAt.set_old (uh n2) w.heap.size 3 (.slice b3 m.desks.length q3) (by omega))
 replace n3 := hide (RecAt.set_old (uh n3) w.heap.size 3 (.slice b3 m.desks.length q3) (by omega))
 have g3 : w4.heap.size ≤ (w4.setCell ⟨w.heap.size, 3, none⟩ (.slice b3 m.desks.length q3)).heap.size := by simp
 generalize w4.setCell ⟨w.heap.size, 3, none⟩ (.slice b3 m.desks.length q3) = X3 at *
 have c4 := (uh kb).cell (i := 4) (v := .slice a4 m.paces.length p4) rfl
 have HX := hide (((uh Hv).below (uh BB)).paces)
 have hl9 := (uh HF).nums
 have hlt9 := (uh kb).lt
 go_upto_region 6 with (at_builtin; refine wpList_append_recs tyN rfl (.tmp 21) (.tmp 23) 30 underlying30 rfl X3.heap.size _ _ [] m.paces rfl rfl (recs_empty rfl (alNlr _)) (IsRec.below (uh HX) ((ba _ _))) (by simp; omega) (by simp) ?_; intro u4 w5 hp9 hg9 hat9; rw [List.nil_append] at hp9; have hb9 : Below X3.heap.size X3 w5 := ((ba _ _)).trans ((alBrf _ _).grown hg9 (by simp) (fun k e => by cases e; exact alNlr _)); have k9 := (uh kb).below hb9 (uh kb).lt; have o9 := k9.cell (i := 4) (v := .slice a4 m.paces.length p4) rfl; have f9 := k9.free 4; obtain ⟨a9, c9, hu9⟩ := RecAt.shape hp9; subst hu9; have hp := hide hp9; have hb := hide hb9; clear hp9 hb9 k9 hg9 hat9)
 clear c4 HX hl9 hlt9 o9 f9
 replace hp := uh hp
 replace hb := uh hb
 obtain ⟨u4, hu4⟩ : ∃ u, u = Value.slice a9 m.paces.length c9 := ⟨_, rfl⟩
 rw [← hu4] at hp ⊢
 clear hu4
 have n4 : Hid (NumsAt (w.heap.size + 2) w5 u4 m.paces) := hide (RecAt.mono hp (by omega))
 have M4 : Hid (∀ b, u4.ownBlock = some b → w4.heap.size ≤ b ∧ b < w5.heap.size) := hide (fun b e => ⟨alNlt g3 (RecAt.lt hp e).1, (RecAt.lt hp e).2⟩)
 replace kb := bl kb hb
 replace kr := bl kr hb
 replace n0 := hide ((uh n0).later hb)
 replace n1 := hide (RecAt.later (uh n1) hb)
 replace n2 := hide (RecAt.later (uh n2) hb)
 replace n3 := hide (RecAt.later (uh n3) hb)
 replace BB := bt BB hb
 have z4 : w4.heap.size ≤ w5.heap.size := alNlt g3 hb.size
 obtain ⟨b4, q4, rfl⟩ := RecAt.shape hp
 clear hp hb
 replace kb : Hid (Blk (w5.setCell ⟨w.heap.size, 4, none⟩ (.slice b4 m.paces.length q4)) w.heap.size 32 (S6 b0 q0 b1 q1 b2 q2 b3 q3 b4 q4 m)) := hide ((uh kb).set 4 _)
 replace kr : Hid (Blk (w5.setCell ⟨w.heap.size, 4, none⟩ (.slice b4 m.paces.length q4)) (w.heap.size + 1) 32 E6) := hide ((uh kr).other (a := ⟨w.heap.size, 4, none⟩) (by show w.heap.size + 1 ≠ w.heap.size; omega) _)
 replace BB : Hid (Below w.heap.size w (w5.setCell ⟨w.heap.size, 4, none⟩ (.slice b4 m.paces.length q4))) := hide ((uh BB).setCell (p := ⟨w.heap.size, 4, none⟩) (alNlr _) _)
 replace n0 := hide ((uh n0).set_old w.heap.size 4 (.slice b4 m.paces.length q4) (by omega))
 replace n1 := hide (RecAt.set_old (uh n1) w.heap.size 4 (.slice b4 m.paces.length q4) (by omega))
 replace n2 := hide (RecAt.set_old (uh n2) w.heap.size 4 (.slice b4 m.paces.length q4) (by omega))
 replace n3 := hide (RecAt.set_old (uh n3) w.heap.size 4 (.slice b4 m.paces.length q4) (by omega))
 replace n4 := hide (RecAt.set_old (uh n4) w.heap.size 4 (.slice b4 m.paces.length q4) (by omega))
 have g4 : w5.heap.size ≤ (w5.setCell ⟨w.heap.size, 4, none⟩ (.slice b4 m.paces.length q4)).heap.size := by simp
 generalize w5.setCell ⟨w.heap.size, 4, none⟩ (.slice b4 m.paces.length q4) = X4 at *
 obtain ⟨c0, c1, c2, c3, c4, c5⟩ := (uh kb).c6
 obtain ⟨o0, o1, o2, o3, o4, o5⟩ := (uh kr).c6
 obtain ⟨f0, f1, f2, f3, f4, f5⟩ := (uh kr).f6
 go_wp2_with fail
 refine alBpr (v := .agg (S6 b0 q0 b1 q1 b2 q2 b3 q3 b4 q4 m)) (by simp [results, results68, go_sem, *]) rfl ⟨_, _, _, _, _, qs, rfl, ?_, ?_⟩
 ·refine FullSmy.mono (n₀ := w.heap.size + 2) (full_of w1.heap.size w2.heap.size w3.heap.size w4.heap.size ?_ (uh Hmap) ?_ ?_ ?_ ?_ (uh L0) (uh M1) (uh M2) (uh M3) (fun b e => (uh M4 b e).1) z1 z2 z3) (by omega)
  ·iterate 6 (refine OwnHall.set_old ?_ _ _ _ (by omega))
   exact uh n0
  ·iterate 6 (refine RecAt.set_old ?_ _ _ _ (by omega))
   exact uh n1
  ·iterate 6 (refine RecAt.set_old ?_ _ _ _ (by omega))
   exact uh n2
  ·iterate 6 (refine RecAt.set_old ?_ _ _ _ (by omega))
   exact uh n3
  ·iterate 6 (refine RecAt.set_old ?_ _ _ _ (by omega))
   exact uh n4
 ·iterate 6 (refine alBsc ?_ (by show _ ≤ w.heap.size + 1; omega) _)
  exact uh BB
open Go.ChangeShapes Go.WideShapes Go.ChangeAt Go.RowKit Go.Sort
section
variable {p q : Option Nat} {w w' w'' : World}
end
theorem OwnHall.same2 {n₀ : Nat} {w w' : World} {v : Value} {qs : List (RoomV × Value)} (h : OwnHall n₀ w v qs) (hs : ∀ k, (v.ownBlock = some k ∨ ∃ q ∈ qs, q.2.ownBlock = some k) → w'.heap[k]? = w.heap[k]?) : OwnHall n₀ w' v qs :=
 ⟨own_same h.row (fun k e => hs k (.inl e)), fun q hq => own_same (h.paces q hq) (fun k e => hs k (.inr ⟨q, hq, e⟩)), h.off, h.apart⟩
section
variable {n₀ n cap g : Nat} {w : World} {v0 v1 v2 v3 v4 : Value} {m : SmyV} {qs : List (RoomV × Value)}
theorem FullSmy.putS (hf : FullSmy n₀ w v0 v1 (.slice (some ⟨g, 0, none⟩) n cap) v3 v4 m qs) (hn : n = m.smiths.length) {j i : Nat} (hj : j < m.smiths.length) (hi : i < 11) (u : Value) (x : SmithV) (hx : encSmith x = (encSmith (recAt m.smiths j)).set i u) :
  FullSmy n₀ (w.setCell ⟨g, j * 11 + i, none⟩ u) v0 v1 (.slice (some ⟨g, 0, none⟩) n cap) v3 v4 { m with smiths := m.smiths.set j x } qs := by
 have hb : (Value.slice (some ⟨g, 0, none⟩) n cap).ownBlock = some g := rfl
 have hne : ∀ k, k ≠ g → (w.setCell ⟨g, j * 11 + i, none⟩ u).heap[k]? = w.heap[k]? := fun k hk => heap_setCell_other w _ k u hk
 refine ⟨hf.hall.same2 fun k e => hne k fun e' => ?_, hf.rooms, RecAt.same hf.guilds fun k e => hne k fun e' => ?_, (RecAt.put1 encSmith_len (by omega) hf.smiths hn hj hi u x hx).1, RecAt.same hf.desks fun k e => hne k fun e' => ?_, RecAt.same hf.paces fun k e => hne k fun e' => ?_, hf.h1, hf.h2, hf.h3, hf.h4, hf.a12, hf.a13, hf.a14, hf.a23, hf.a24, hf.a34⟩
 ·subst e'
  rcases e with e | ⟨q, hq, e⟩
  ·exact hf.h2.1 _ hb e
  ·exact hf.h2.2 q hq _ hb e
 ·subst e'; exact hf.a12 _ e hb
 ·subst e'; exact hf.a23 _ hb e
 ·subst e'; exact hf.a24 _ hb e
end
end Go.Proofs.YtgdpaigcmoifbaaGreat
namespace Go.Proofs.YtgdpaigcmoifbaaGreat
open Go.ChangeShapes Go.WideShapes Go.ChangeAt Go.RowKit Go.Sort
set_option linter.unusedVariables false
def OwnB (v0 v1 v2 v3 v4 : Value) (qs : List (RoomV × Value)) (k : Nat) : Prop := v0.ownBlock = some k ∨ (∃ q ∈ qs, q.2.ownBlock = some k) ∨ v1.ownBlock = some k ∨ v2.ownBlock = some k ∨ v3.ownBlock = some k ∨ v4.ownBlock = some k
section
variable {n₀ : Nat} {w w' : World} {v0 v1 v2 v3 v4 : Value} {m : SmyV} {qs : List (RoomV × Value)}
theorem FullSmy.own (h : FullSmy n₀ w v0 v1 v2 v3 v4 m qs) {k : Nat} (e : OwnB v0 v1 v2 v3 v4 qs k) : n₀ ≤ k ∧ k < w.heap.size := by
 rcases e with e | e | e | e | e | e
 ·exact h.hall.lt (.inl e)
 ·exact h.hall.lt (.inr e)
 ·exact RecAt.lt h.guilds e
 ·exact RecAt.lt h.smiths e
 ·exact RecAt.lt h.desks e
 ·exact RecAt.lt h.paces e
end
end Go.Proofs.YtgdpaigcmoifbaaGreat
namespace Go.Proofs.YtgdpaigcmoifbaaGreat
open Go.ChangeShapes Go.WideShapes Go.ChangeAt Go.RowKit Go.Sort Go.Proofs.Tryz
set_option linter.unusedVariables false
theorem markQ_vals : ∀ (qs : List (RoomV × Value)) (k : Int), (markQ k qs).map (·.2) = qs.map (·.2)
 | [], _ => rfl
 | q :: qs, k => by
  have := markQ_vals qs (k + 1 + 2 * (q.1.2.length : Int))
  simp only [markQ, List.map_cons]
  rw [this]
theorem markQ_mem {qs : List (RoomV × Value)} {k : Int} {q : RoomV × Value} (h : q ∈ markQ k qs) : ∃ q' ∈ qs, q'.2 = q.2 := by
 have : q.2 ∈ (markQ k qs).map (·.2) := List.mem_map.2 ⟨q, h, rfl⟩
 rw [markQ_vals] at this
 exact List.mem_map.1 this
theorem OffHall.marked {u v : Value} {qs : List (RoomV × Value)} (h : OffHall u v qs) (k : Int) : OffHall u v (markQ k qs) :=
 ⟨h.1, fun q hq => by obtain ⟨q', h1, h2⟩ := markQ_mem hq; rw [← h2]; exact h.2 q' h1⟩
structure SmyOnly (v0 v1 v2 v3 v4 : Value) (qs : List (RoomV × Value)) (w w' : World) : Prop where
 os : w'.os = w.os
 tape : w'.tape = w.tape
 output : w'.output = w.output
 size : w.heap.size ≤ w'.heap.size
 block : ∀ k, k < w.heap.size → v0.ownBlock ≠ some k → (∀ q ∈ qs, q.2.ownBlock ≠ some k) → v1.ownBlock ≠ some k → v2.ownBlock ≠ some k → v3.ownBlock ≠ some k → v4.ownBlock ≠ some k → w'.heap[k]? = w.heap[k]?
def markM (k : Int) (m : SmyV) (qs : List (RoomV × Value)) : SmyV :=
 { rooms := (markQ k qs).map (·.1), guilds := markL mkGuild 3 (kEnd k qs) m.guilds.length, smiths := markL mkSmith 11 (kEnd k qs + 3 * (m.guilds.length : Int)) m.smiths.length, desks := markL mkDesk 3 (kEnd k qs + 3 * (m.guilds.length : Int) + 11 * (m.smiths.length : Int)) m.desks.length, paces := marks (kEnd k qs + 3 * (m.guilds.length : Int) + 11 * (m.smiths.length : Int) + 3 * (m.desks.length : Int)) m.paces.length, now := m.now }
def endM (k : Int) (m : SmyV) (qs : List (RoomV × Value)) : Int := kEnd k qs + 3 * (m.guilds.length : Int) + 11 * (m.smiths.length : Int) + 3 * (m.desks.length : Int) + (m.paces.length : Int)
theorem small_qs {m : SmyV} {qs : List (RoomV × Value)} (hs : Small m.rooms) (hm : qs.map (·.1) = m.rooms) : qs.length ≤ 1048576 ∧ ∀ q ∈ qs, q.1.2.length ≤ 1048576 := by
 have hl : qs.length = m.rooms.length := by rw [← hm, List.length_map]
 refine ⟨by have := hs.1; omega, fun q hq => ?_⟩
 have hq' : q.1 ∈ m.rooms := by rw [← hm]; exact List.mem_map.2 ⟨q, hq, rfl⟩
 obtain ⟨j, hj, e⟩ := List.getElem_of_mem hq'
 have := hs.2 j hj
 have hat : roomAt m.rooms j = m.rooms[j] := by unfold roomAt; simp [List.getD, hj]
 rw [hat, e] at this
 exact this
theorem kEnd_all {qs : List (RoomV × Value)} (hl : qs.length ≤ 1048576) (hp : ∀ q ∈ qs, q.1.2.length ≤ 1048576) (k : Int) : k ≤ kEnd k qs ∧ kEnd k qs ≤ k + 2199024304128 := by
 have := kEnd_bd hp k qs.length (alNlr _)
 rw [List.take_length] at this
 omega
theorem OwnHall.keep {n₀ : Nat} {w w' : World} {u v : Value} {qs : List (RoomV × Value)} (h : OwnHall n₀ w v qs) (hg : w.grownBy w' u.ownBlock) (ho : OffHall u v qs) : OwnHall n₀ w' v qs :=
 ⟨own_same h.row fun k e => hg.block k (h.lt (.inl e)).2 (fun e' => ho.1 k e'.symm e), fun q hq => own_same (h.paces q hq) fun k e => hg.block k (h.lt (.inr ⟨q, hq, e⟩)).2 (fun e' => ho.2 q hq k e'.symm e), h.off, h.apart⟩
theorem markSmithy_any {n₀ : Nat} {w : World} {v0 v1 v2 v3 v4 : Value} {m : SmyV} {qs : List (RoomV × Value)} (k : Int) (h : FullSmy n₀ w v0 v1 v2 v3 v4 m qs) (hs : SmySmall m) (hn : n₀ ≤ w.heap.size) (hk0 : 0 ≤ k) (hk1 : k ≤ 1000000000) :
  Calls prog 45 #[.agg #[v0, v1, v2, v3, v4, .int .i64 m.now], .int .i64 k] w fun e w' => e = .returned (.int .i64 (endM k m qs)) ∧ FullSmy n₀ w' v0 v1 v2 v3 v4 (markM k m qs) (markQ k qs) ∧ SmyOnly v0 v1 v2 v3 v4 qs w w' := by
 obtain ⟨sq, sp⟩ := small_qs hs.rooms h.rooms
 obtain ⟨e0, e1⟩ := kEnd_all sq sp k
 have Sp := hide sp
 obtain ⟨_, s1, s2, s3, s4⟩ := hs
 have hql : qs.length = m.rooms.length := by rw [← h.rooms, List.length_map]
 have Hf := hide h
 have Ha := hide (h.below ((alBrf _ _).alloc (alNlr _) (.cells #[v0, v1, v2, v3, v4, .int .i64 m.now] 32)))
 obtain ⟨a0, p0, rfl⟩ := h.hall.shape
 obtain ⟨a1, p1, rfl⟩ := RecAt.shape h.guilds
 obtain ⟨a2, p2, rfl⟩ := RecAt.shape h.smiths
 obtain ⟨a3, p3, rfl⟩ := RecAt.shape h.desks
 obtain ⟨a4, p4, rfl⟩ := RecAt.shape h.paces
 rw [hql] at *
 clear h sp hql
 unfold endM
 generalize hke : kEnd k qs = ke at *
 have Hke := hide hke
 clear hke
 go_enter func45, ntmps45
 go_wp2_with fail
 have kb : Hid (Blk (w.alloc (.cells (S6 a0 p0 a1 p1 a2 p2 a3 p3 a4 p4 m) 32)) w.heap.size 32 (S6 a0 p0 a1 p1 a2 p2 a3 p3 a4 p4 m)) := hide (Blk.new w _ _)
 have OO : Hid (SmyOnly (.slice a0 m.rooms.length p0) (.slice a1 m.guilds.length p1) (.slice a2 m.smiths.length p2) (.slice a3 m.desks.length p3) (.slice a4 m.paces.length p4) qs w (w.alloc (.cells (S6 a0 p0 a1 p1 a2 p2 a3 p3 a4 p4 m) 32))) := hide ⟨rfl, rfl, rfl, by simp, fun k hk _ _ _ _ _ _ => Below.heap_alloc w _ k hk⟩
 have Ln : Hid (∀ b, ((Value.slice a0 m.rooms.length p0).ownBlock = some b ∨ ∃ q ∈ qs, q.2.ownBlock = some b) → b < w.heap.size) := hide (fun b e => ((uh Hf).hall.lt e).2)
 have L1 : Hid (∀ b, (Value.slice a1 m.guilds.length p1).ownBlock = some b → b < w.heap.size) := hide (fun b e => (RecAt.lt (uh Hf).guilds e).2)
 have L2 : Hid (∀ b, (Value.slice a2 m.smiths.length p2).ownBlock = some b → b < w.heap.size) := hide (fun b e => (RecAt.lt (uh Hf).smiths e).2)
 have L3 : Hid (∀ b, (Value.slice a3 m.desks.length p3).ownBlock = some b → b < w.heap.size) := hide (fun b e => (RecAt.lt (uh Hf).desks e).2)
 have L4 : Hid (∀ b, (Value.slice a4 m.paces.length p4).ownBlock = some b → b < w.heap.size) := hide (fun b e => (RecAt.lt (uh Hf).paces e).2)
 have n0 := hide (uh Ha).hall
 have n1 := hide (uh Ha).guilds
 have n2 := hide (uh Ha).smiths
 have n3 := hide (uh Ha).desks
 have n4 := hide (uh Ha).paces
 have hsz : w.heap.size < (w.alloc (.cells (S6 a0 p0 a1 p1 a2 p2 a3 p3 a4 p4 m) 32)).heap.size := (uh kb).lt
 clear Ha
 generalize w.alloc (.cells (S6 a0 p0 a1 p1 a2 p2 a3 p3 a4 p4 m) 32) = W at *
 refine (markHall_any k (uh n0) (by omega) hk0 hk1 (by omega) (uh Sp)).mono ?_
 rintro e w1 ⟨rfl, ho, hb⟩
 rw [uh Hke]
 replace n0 := hide ho
 replace n1 := hide (RecAt.same (uh n1) fun b e => hb.block b (RecAt.lt (uh n1) e).2 ((uh Hf).h1.1 b e) (fun q hq => (uh Hf).h1.2 q hq b e))
 replace n2 := hide (RecAt.same (uh n2) fun b e => hb.block b (RecAt.lt (uh n2) e).2 ((uh Hf).h2.1 b e) (fun q hq => (uh Hf).h2.2 q hq b e))
 replace n3 := hide (RecAt.same (uh n3) fun b e => hb.block b (RecAt.lt (uh n3) e).2 ((uh Hf).h3.1 b e) (fun q hq => (uh Hf).h3.2 q hq b e))
 replace n4 := hide (RecAt.same (uh n4) fun b e => hb.block b (RecAt.lt (uh n4) e).2 ((uh Hf).h4.1 b e) (fun q hq => (uh Hf).h4.2 q hq b e))
 replace kb := hide ((uh kb).same (hb.block w.heap.size hsz (fun e => by have := uh Ln _ (.inl e); omega) (fun q hq e => by have := uh Ln _ (.inr ⟨q, hq, e⟩); omega)))
 replace OO := hide (⟨hb.os.trans (uh OO).os, hb.tape.trans (uh OO).tape, hb.output.trans (uh OO).output, alNlt (uh OO).size hb.size, fun k hk h0 hq h1 h2 h3 h4 => (hb.block k (alNll hk (uh OO).size) h0 hq).trans ((uh OO).block k hk h0 hq h1 h2 h3 h4)⟩ : SmyOnly _ _ _ _ _ qs w w1)
 replace hsz : w.heap.size < w1.heap.size := alNll hsz hb.size
 clear ho hb
 have c1 := (uh kb).cell (i := 1) (v := .slice a1 m.guilds.length p1) rfl
 go_wp2_with fail
 clear c1
 refine (markGuildS_any (ke) (uh n1) (by omega) (by omega) (by omega)).mono ?_
 rintro e w2 ⟨rfl, ho, hg⟩
 have hlt1 := fun b e => uh L1 b e
 replace n0 := hide (OwnHall.keep (uh n0) hg ((uh Hf).h1.marked k))
 replace n2 := hide (RecAt.grown (uh n2) hg (fun b e => fun e2 => ((uh Hf).a12).symm b e e2))
 replace n3 := hide (RecAt.grown (uh n3) hg (fun b e => fun e2 => ((uh Hf).a13).symm b e e2))
 replace n4 := hide (RecAt.grown (uh n4) hg (fun b e => fun e2 => ((uh Hf).a14).symm b e e2))
 replace n1 := hide ho
 replace kb := hide ((uh kb).same (hg.block w.heap.size hsz (fun e => by have := hlt1 _ e.symm; omega)))
 replace OO := hide (⟨hg.os.trans (uh OO).os, hg.tape.trans (uh OO).tape, hg.output.trans (uh OO).output, alNlt (uh OO).size hg.size, fun k hk h0 hq h1 h2 h3 h4 => (hg.block k (alNll hk (uh OO).size) (fun e => h1 e.symm)).trans ((uh OO).block k hk h0 hq h1 h2 h3 h4)⟩ : SmyOnly _ _ _ _ _ qs w w2)
 replace hsz : w.heap.size < w2.heap.size := alNll hsz hg.size
 clear ho hg hlt1
 have c2 := (uh kb).cell (i := 2) (v := .slice a2 m.smiths.length p2) rfl
 go_wp2_with fail
 clear c2
 refine (markSmithS_any (ke + 3 * (m.guilds.length : Int)) (uh n2) (by omega) (by omega) (by omega)).mono ?_
 rintro e w3 ⟨rfl, ho, hg⟩
 have hlt2 := fun b e => uh L2 b e
 replace n0 := hide (OwnHall.keep (uh n0) hg ((uh Hf).h2.marked k))
 replace n1 := hide (RecAt.grown (uh n1) hg (fun b e => fun e2 => (uh Hf).a12 b e e2))
 replace n3 := hide (RecAt.grown (uh n3) hg (fun b e => fun e2 => ((uh Hf).a23).symm b e e2))
 replace n4 := hide (RecAt.grown (uh n4) hg (fun b e => fun e2 => ((uh Hf).a24).symm b e e2))
 replace n2 := hide ho
 replace kb := hide ((uh kb).same (hg.block w.heap.size hsz (fun e => by have := hlt2 _ e.symm; omega)))
 replace OO := hide (⟨hg.os.trans (uh OO).os, hg.tape.trans (uh OO).tape, hg.output.trans (uh OO).output, alNlt (uh OO).size hg.size, fun k hk h0 hq h1 h2 h3 h4 => (hg.block k (alNll hk (uh OO).size) (fun e => h2 e.symm)).trans ((uh OO).block k hk h0 hq h1 h2 h3 h4)⟩ : SmyOnly _ _ _ _ _ qs w w3)
 replace hsz : w.heap.size < w3.heap.size := alNll hsz hg.size
 clear ho hg hlt2
 have c3 := (uh kb).cell (i := 3) (v := .slice a3 m.desks.length p3) rfl
 go_wp2_with fail
 clear c3
 refine (markDeskS_any (ke + 3 * (m.guilds.length : Int) + 11 * (m.smiths.length : Int)) (uh n3) (by omega) (by omega) (by omega)).mono ?_
 rintro e w4 ⟨rfl, ho, hg⟩
 have hlt3 := fun b e => uh L3 b e
 replace n0 := hide (OwnHall.keep (uh n0) hg ((uh Hf).h3.marked k))
 replace n1 := hide (RecAt.grown (uh n1) hg (fun b e => fun e2 => (uh Hf).a13 b e e2))
 replace n2 := hide (RecAt.grown (uh n2) hg (fun b e => fun e2 => (uh Hf).a23 b e e2))
 replace n4 := hide (RecAt.grown (uh n4) hg (fun b e => fun e2 => ((uh Hf).a34).symm b e e2))
 replace n3 := hide ho
 replace kb := hide ((uh kb).same (hg.block w.heap.size hsz (fun e => by have := hlt3 _ e.symm; omega)))
 replace OO := hide (⟨hg.os.trans (uh OO).os, hg.tape.trans (uh OO).tape, hg.output.trans (uh OO).output, alNlt (uh OO).size hg.size, fun k hk h0 hq h1 h2 h3 h4 => (hg.block k (alNll hk (uh OO).size) (fun e => h3 e.symm)).trans ((uh OO).block k hk h0 hq h1 h2 h3 h4)⟩ : SmyOnly _ _ _ _ _ qs w w4)
 replace hsz : w.heap.size < w4.heap.size := alNll hsz hg.size
 clear ho hg hlt3
 have c4 := (uh kb).cell (i := 4) (v := .slice a4 m.paces.length p4) rfl
 go_wp2_with fail
 clear c4
 refine (markNums_any (ke + 3 * (m.guilds.length : Int) + 11 * (m.smiths.length : Int) + 3 * (m.desks.length : Int)) (uh n4) (by omega) (by omega) (by omega)).mono ?_
 rintro e w5 ⟨rfl, ho, hg⟩
 have hlt4 := fun b e => uh L4 b e
 replace n0 := hide (OwnHall.keep (uh n0) hg ((uh Hf).h4.marked k))
 replace n1 := hide (RecAt.grown (uh n1) hg (fun b e => fun e2 => (uh Hf).a14 b e e2))
 replace n2 := hide (RecAt.grown (uh n2) hg (fun b e => fun e2 => (uh Hf).a24 b e e2))
 replace n3 := hide (RecAt.grown (uh n3) hg (fun b e => fun e2 => (uh Hf).a34 b e e2))
 replace n4 := hide ho
 replace kb := hide ((uh kb).same (hg.block w.heap.size hsz (fun e => by have := hlt4 _ e.symm; omega)))
 replace OO := hide (⟨hg.os.trans (uh OO).os, hg.tape.trans (uh OO).tape, hg.output.trans (uh OO).output, alNlt (uh OO).size hg.size, fun k hk h0 hq h1 h2 h3 h4 => (hg.block k (alNll hk (uh OO).size) (fun e => h4 e.symm)).trans ((uh OO).block k hk h0 hq h1 h2 h3 h4)⟩ : SmyOnly _ _ _ _ _ qs w w5)
 replace hsz : w.heap.size < w5.heap.size := alNll hsz hg.size
 clear ho hg hlt4
 go_wp2_with fail
 go_ret
 refine ⟨rfl, ⟨uh n0, rfl, ?_, ?_, ?_, ?_, (uh Hf).h1.marked k, (uh Hf).h2.marked k, (uh Hf).h3.marked k, (uh Hf).h4.marked k, (uh Hf).a12, (uh Hf).a13, (uh Hf).a14, (uh Hf).a23, (uh Hf).a24, (uh Hf).a34⟩, uh OO⟩
 ·show RecAt _ _ _ _ _ _ (markM k m qs).guilds
  unfold markM
  rw [uh Hke]
  exact uh n1
 ·show RecAt _ _ _ _ _ _ (markM k m qs).smiths
  unfold markM
  rw [uh Hke]
  exact uh n2
 ·show RecAt _ _ _ _ _ _ (markM k m qs).desks
  unfold markM
  rw [uh Hke]
  exact uh n3
 ·show RecAt _ _ _ _ _ _ (markM k m qs).paces
  unfold markM
  rw [uh Hke]
  exact uh n4
open Go.ChangeShapes Go.WideShapes Go.ChangeAt Go.RowKit Go.Sort
section
variable {w w' : World}
theorem SmyOnly.at {u0 u1 u2 u3 u4 : Value} {rs : List (RoomV × Value)} (h : SmyOnly u0 u1 u2 u3 u4 rs w w') {k : Nat} (hk : k < w.heap.size) (hn : ¬ OwnB u0 u1 u2 u3 u4 rs k) : w'.heap[k]? = w.heap[k]? :=
 h.block k hk (fun e => hn (.inl e)) (fun q hq e => hn (.inr (.inl ⟨q, hq, e⟩))) (fun e => hn (.inr (.inr (.inl e)))) (fun e => hn (.inr (.inr (.inr (.inl e))))) (fun e => hn (.inr (.inr (.inr (.inr (.inl e)))))) (fun e => hn (.inr (.inr (.inr (.inr (.inr e))))))
theorem SmyOnly.below {u0 u1 u2 u3 u4 : Value} {rs : List (RoomV × Value)} {B : Nat} (h : SmyOnly u0 u1 u2 u3 u4 rs w w') (hB : B ≤ w.heap.size) (ho : ∀ k, OwnB u0 u1 u2 u3 u4 rs k → B ≤ k) : Below B w w' :=
 ⟨h.os, h.tape, h.output, h.size, fun k hk => h.at (by omega) (fun e => by have := ho k e; omega)⟩
end
theorem endM_bd {m : SmyV} {qs : List (RoomV × Value)} (hs : SmySmall m) (hm : qs.map (·.1) = m.rooms) : 1 ≤ endM 1 m qs ∧ endM 1 m qs ≤ 10000000000000 := by
 obtain ⟨sq, sp⟩ := small_qs hs.rooms hm
 obtain ⟨e0, e1⟩ := kEnd_all sq sp 1
 obtain ⟨_, s1, s2, s3, s4⟩ := hs
 unfold endM
 omega
end Go.Proofs.YtgdpaigcmoifbaaGreat
