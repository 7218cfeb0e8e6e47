/- Part 14 of what the proof rests on. No condition but those that a theorem names. -/
import Derived.Test.YthbbahagpmdooaaGreatDoorXw06
import Derived.Test.YthbbahagpmdooaaGreatDoorXw13
import Derived.Deep.DeepCutAuto
import Derived.Laws.StructEq
set_option maxHeartbeats 8000000
set_option maxRecDepth 100000
namespace Go.Proofs.YthbbahagpmdooaaGreatDoor
open Go.ChangeShapes Go.WideShapes Go.ChangeAt Go.RowKit Go.Sort
set_option linter.unusedVariables false
theorem tyG : RecTy 82 3 (.agg #[.int .i64 0, .int .i64 0, .int .i64 0]) encGuild := ⟨by kernel_rfl, rfl, encGuild_len, by omega, by omega, fun x u hu => by
 simp only [encGuild, List.mem_cons, List.not_mem_nil, or_false] at hu
 rcases hu with rfl | rfl | rfl <;> rfl⟩
theorem tyS : RecTy 40 11 (.agg #[.int .i64 0, .int .i64 0, .int .i64 0, .int .i64 0, .int .i64 0, .int .i64 0, .int .i64 0, .int .i64 0, .int .i64 0, .int .i64 0, .int .i64 0]) encSmith := ⟨by kernel_rfl, rfl, encSmith_len, by omega, by omega, fun x u hu => by
 simp only [encSmith, List.mem_cons, List.not_mem_nil, or_false] at hu
 rcases hu with rfl | rfl | rfl | rfl | rfl | rfl | rfl | rfl | rfl | rfl | rfl <;> rfl⟩
theorem tyD : RecTy 43 3 (.agg #[.bool false, .int .i64 0, .int .i64 0]) encDesk := ⟨by kernel_rfl, rfl, encDesk_len, by omega, by omega, fun x u hu => by
 simp only [encDesk, List.mem_cons, List.not_mem_nil, or_false] at hu
 rcases hu with rfl | rfl | rfl <;> rfl⟩
theorem tyN : RecTy 2 1 (.int .i64 0) encNum := ⟨by kernel_rfl, rfl, encNum_len, by omega, by omega, fun x u hu => by
 simp only [encNum, List.mem_cons, List.not_mem_nil, or_false] at hu
 rcases hu with rfl <;> rfl⟩
structure Few (m : SmyV) : Prop where
 rooms : m.rooms.length ≤ 1000
 paces : ∀ r ∈ m.rooms, r.2.length ≤ 1000
 guilds : m.guilds.length ≤ 1000
 smiths : m.smiths.length ≤ 800
 desks : m.desks.length ≤ 1000
 nums : m.paces.length ≤ 1000
theorem full_of {n₀ : Nat} {w : World} {v0 v1 v2 v3 v4 : Value} {m : SmyV} {qs : List (RoomV × Value)} (s0 s1 s2 s3 : Nat) (hh : OwnHall n₀ w v0 qs) (hr : qs.map (·.1) = m.rooms) (hg : GuildsAt n₀ w v1 m.guilds) (hs : SmithsAt n₀ w v2 m.smiths) (hd : DesksAt n₀ w v3 m.desks) (hp : NumsAt n₀ w v4 m.paces)
  (l0 : ∀ b, (v0.ownBlock = some b ∨ ∃ q ∈ qs, q.2.ownBlock = some b) → b < s0) (l1 : ∀ b, v1.ownBlock = some b → s0 ≤ b ∧ b < s1) (l2 : ∀ b, v2.ownBlock = some b → s1 ≤ b ∧ b < s2) (l3 : ∀ b, v3.ownBlock = some b → s2 ≤ b ∧ b < s3) (l4 : ∀ b, v4.ownBlock = some b → s3 ≤ b) (h1 : s0 ≤ s1) (h2 : s1 ≤ s2) (h3 : s2 ≤ s3) :
  FullSmy n₀ w v0 v1 v2 v3 v4 m qs := by
 refine ⟨hh, hr, hg, hs, hd, hp, ⟨?_, ?_⟩, ⟨?_, ?_⟩, ⟨?_, ?_⟩, ⟨?_, ?_⟩, ?_, ?_, ?_, ?_, ?_, ?_⟩
 ·intro b e e'; have := (l1 b e).1; have := l0 b (.inl e'); omega
 ·intro q hq b e e'; have := (l1 b e).1; have := l0 b (.inr ⟨q, hq, e'⟩); omega
 ·intro b e e'; have := (l2 b e).1; have := l0 b (.inl e'); omega
 ·intro q hq b e e'; have := (l2 b e).1; have := l0 b (.inr ⟨q, hq, e'⟩); omega
 ·intro b e e'; have := (l3 b e).1; have := l0 b (.inl e'); omega
 ·intro q hq b e e'; have := (l3 b e).1; have := l0 b (.inr ⟨q, hq, e'⟩); omega
 ·intro b e e'; have := l4 b e; have := l0 b (.inl e'); omega
 ·intro q hq b e e'; have := l4 b e; have := l0 b (.inr ⟨q, hq, e'⟩); omega
 ·intro b e e'; have := l1 b e; have := l2 b e'; omega
 ·intro b e e'; have := l1 b e; have := l3 b e'; omega
 ·intro b e e'; have := l1 b e; have := l4 b e'; omega
 ·intro b e e'; have := l2 b e; have := l3 b e'; omega
 ·intro b e e'; have := l2 b e; have := l4 b e'; omega
 ·intro b e e'; have := l3 b e; have := l4 b e'; omega
theorem l8Copy_any {w : World} {v : Value} {ps : List GuildV} (h : IsGuilds w v ps) (hl : ps.length ≤ 1000) :
  Calls Tryz.prog 107 #[v] w fun e w' => ∃ v', e = .returned v' ∧ GuildsAt w.heap.size w' v' ps ∧ Below w.heap.size w w' := by
 have Hv := hide h
 obtain ⟨a, cap, rfl, hc, hm, hr⟩ := h
 clear hr
 go_enter Tryz.func107, Tryz.ntmps107
 go_wp2_with (at_builtin; refine wpList_append_recs tyG rfl (.tmp 3) (.tmp 4) 27 Tryz.underlying27 rfl w.heap.size _ _ [] ps rfl rfl (recs_empty rfl (Nat.le_refl _)) ((uh Hv).below ((Below.refl _ _).alloc (Nat.le_refl _) _)) (by simp; omega) (by simp) ?_; intro v' w1 hown hgrow hat)
 go_ret
 refine ⟨v', rfl, by simpa using hown, ((Below.refl _ _).alloc (Nat.le_refl _) _).trans ((Below.refl _ _).grown hgrow (by simp) (fun k e => ?_))⟩
 cases e; exact Nat.le_refl _
theorem l11Copy_any {w : World} {v0 v1 v2 v3 v4 : Value} {m : SmyV} (h : Smy w v0 v1 v2 v3 v4 m) (hF : Few m) :
  Calls Tryz.prog 44 #[.agg #[v0, v1, v2, v3, v4, .int .i64 m.now]] w fun e w' => ∃ u0 u1 u2 u3 u4 qs, e = .returned (.agg #[u0, u1, u2, u3, u4, .int .i64 m.now]) ∧ FullSmy w.heap.size w' u0 u1 u2 u3 u4 m qs ∧ Below w.heap.size w w' := by
 have Hv := hide h
 have HF := hide hF
 obtain ⟨a0, p0, a1, p1, a2, p2, a3, p3, a4, p4, rfl, rfl, rfl, rfl, rfl, _, _, _, _, _, _, _, _, _, _⟩ := h.five
 clear h hF
 go_enter Tryz.func44, Tryz.ntmps44
 go_wp2_with fail
 obtain ⟨W, hW, kb, kr, BB⟩ := two_boxes w 32 (S6 a0 p0 a1 p1 a2 p2 a3 p3 a4 p4 m) 32 E6
 rw [hW]
 clear hW
 have hW : w.heap.size + 2 ≤ W.heap.size := by have := (uh kr).lt; omega
 refine (l4Copy_any ((uh Hv).below (uh BB)).rooms (uh HF).rooms (uh HF).paces).mono ?_
 rintro e w1 ⟨u0, qs, rfl, hmap, hp, hb⟩
 have Hmap := hide hmap
 clear hmap
 have n0 : Hid (OwnHall (w.heap.size + 2) w1 u0 qs) := hide (hp.mono hW)
 replace kb := bl kb hb
 replace kr := bl kr hb
 replace BB := bt BB hb
 have hW1 : w.heap.size + 2 ≤ w1.heap.size := by have := hb.size; omega
 obtain ⟨b0, q0, rfl⟩ := hp.shape
 have hql : qs.length = m.rooms.length := by rw [← uh Hmap, List.length_map]
 rw [hql] at n0 ⊢
 have L0 : Hid (∀ b, ((Value.slice b0 m.rooms.length q0).ownBlock = some b ∨ ∃ q ∈ qs, q.2.ownBlock = some b) → b < w1.heap.size) := hide (fun b e => ((uh n0).lt e).2)
 clear hp hql hb hW
 have o0 := (uh kb).cell (i := 0) (v := .slice a0 m.rooms.length p0) rfl
 have f0 := (uh kb).free 0
 go_upto_region 2 with fail
 clear o0 f0
 replace kb : Hid (Blk (w1.setCell ⟨w.heap.size, 0, none⟩ (.slice b0 m.rooms.length q0)) w.heap.size 32 #[.slice b0 m.rooms.length q0, .slice a1 m.guilds.length p1, .slice a2 m.smiths.length p2, .slice a3 m.desks.length p3, .slice a4 m.paces.length p4, .int .i64 m.now]) := hide ((uh kb).set 0 _)
 replace kr : Hid (Blk (w1.setCell ⟨w.heap.size, 0, none⟩ (.slice b0 m.rooms.length q0)) (w.heap.size + 1) 32 #[.slice none 0 0, .slice none 0 0, .slice none 0 0, .slice none 0 0, .slice none 0 0, .int .i64 0]) := hide ((uh kr).other (a := ⟨w.heap.size, 0, none⟩) (by show w.heap.size + 1 ≠ w.heap.size; omega) _)
 replace BB : Hid (Below w.heap.size w (w1.setCell ⟨w.heap.size, 0, none⟩ (.slice b0 m.rooms.length q0))) := hide ((uh BB).setCell (p := ⟨w.heap.size, 0, none⟩) (Nat.le_refl _) _)
 replace n0 := hide ((uh n0).set_old w.heap.size 0 (.slice b0 m.rooms.length q0) (by omega))
 have g0 : w1.heap.size ≤ (w1.setCell ⟨w.heap.size, 0, none⟩ (.slice b0 m.rooms.length q0)).heap.size := by simp
 generalize w1.setCell ⟨w.heap.size, 0, none⟩ (.slice b0 m.rooms.length q0) = X0 at *
 have c1 := (uh kb).cell (i := 1) (v := .slice a1 m.guilds.length p1) rfl
 go_wp2_with fail
 clear c1
 refine (l8Copy_any ((uh Hv).below (uh BB)).guilds (uh HF).guilds).mono ?_
 rintro e w2 ⟨u1, rfl, hp, hb⟩
 have n1 : Hid (GuildsAt (w.heap.size + 2) w2 u1 m.guilds) := hide (RecAt.mono hp (by omega))
 have M1 : Hid (∀ b, u1.ownBlock = some b → w1.heap.size ≤ b ∧ b < w2.heap.size) := hide (fun b e => ⟨Nat.le_trans g0 (RecAt.lt hp e).1, (RecAt.lt hp e).2⟩)
 replace kb := bl kb hb
 replace kr := bl kr hb
 replace n0 := hide ((uh n0).later hb)
 replace BB := bt BB hb
 have z1 : w1.heap.size ≤ w2.heap.size := Nat.le_trans g0 hb.size
 obtain ⟨b1, q1, rfl⟩ := RecAt.shape hp
 clear hp hb
 have o1 := (uh kb).cell (i := 1) (v := .slice a1 m.guilds.length p1) rfl
 have f1 := (uh kb).free 1
 go_upto_region 3 with fail
 clear o1 f1
 replace kb : Hid (Blk (w2.setCell ⟨w.heap.size, 1, none⟩ (.slice b1 m.guilds.length q1)) w.heap.size 32 #[.slice b0 m.rooms.length q0, .slice b1 m.guilds.length q1, .slice a2 m.smiths.length p2, .slice a3 m.desks.length p3, .slice a4 m.paces.length p4, .int .i64 m.now]) := hide ((uh kb).set 1 _)
 replace kr : Hid (Blk (w2.setCell ⟨w.heap.size, 1, none⟩ (.slice b1 m.guilds.length q1)) (w.heap.size + 1) 32 #[.slice none 0 0, .slice none 0 0, .slice none 0 0, .slice none 0 0, .slice none 0 0, .int .i64 0]) := hide ((uh kr).other (a := ⟨w.heap.size, 1, none⟩) (by show w.heap.size + 1 ≠ w.heap.size; omega) _)
 replace BB : Hid (Below w.heap.size w (w2.setCell ⟨w.heap.size, 1, none⟩ (.slice b1 m.guilds.length q1))) := hide ((uh BB).setCell (p := ⟨w.heap.size, 1, none⟩) (Nat.le_refl _) _)
 replace n0 := hide ((uh n0).set_old w.heap.size 1 (.slice b1 m.guilds.length q1) (by omega))
 replace n1 := hide (RecAt.set_old (uh n1) w.heap.size 1 (.slice b1 m.guilds.length q1) (by omega))
 have g1 : w2.heap.size ≤ (w2.setCell ⟨w.heap.size, 1, none⟩ (.slice b1 m.guilds.length q1)).heap.size := by simp
 generalize w2.setCell ⟨w.heap.size, 1, none⟩ (.slice b1 m.guilds.length q1) = X1 at *
 have c2 := (uh kb).cell (i := 2) (v := .slice a2 m.smiths.length p2) rfl
 have HX := hide (((uh Hv).below (uh BB)).smiths)
 have hl9 := (uh HF).smiths
 have hlt9 := (uh kb).lt
 go_upto_region 4 with (at_builtin; refine wpList_append_recs tyS rfl (.tmp 11) (.tmp 13) 28 Tryz.underlying28 rfl X1.heap.size _ _ [] m.smiths rfl rfl (recs_empty rfl (Nat.le_refl _)) (IsRec.below (uh HX) ((Below.refl _ _).alloc (Nat.le_refl _) _)) (by simp; omega) (by simp) ?_; intro u2 w3 hp9 hg9 hat9; rw [List.nil_append] at hp9; have hb9 : Below X1.heap.size X1 w3 := ((Below.refl _ _).alloc (Nat.le_refl _) _).trans ((Below.refl _ _).grown hg9 (by simp) (fun k e => by cases e; exact Nat.le_refl _)); have k9 := (uh kb).below hb9 (uh kb).lt; have o9 := k9.cell (i := 2) (v := .slice a2 m.smiths.length p2) rfl; have f9 := k9.free 2; obtain ⟨a9, c9, hu9⟩ := RecAt.shape hp9; subst hu9; have hp := hide hp9; have hb := hide hb9; clear hp9 hb9 k9 hg9 hat9)
 clear c2 HX hl9 hlt9 o9 f9
 replace hp := uh hp
 replace hb := uh hb
 obtain ⟨u2, hu2⟩ : ∃ u, u = Value.slice a9 m.smiths.length c9 := ⟨_, rfl⟩
 rw [← hu2] at hp ⊢
 clear hu2
 have n2 : Hid (SmithsAt (w.heap.size + 2) w3 u2 m.smiths) := hide (RecAt.mono hp (by omega))
 have M2 : Hid (∀ b, u2.ownBlock = some b → w2.heap.size ≤ b ∧ b < w3.heap.size) := hide (fun b e => ⟨Nat.le_trans g1 (RecAt.lt hp e).1, (RecAt.lt hp e).2⟩)
 replace kb := bl kb hb
 replace kr := bl kr hb
 replace n0 := hide ((uh n0).later hb)
 replace n1 := hide (RecAt.later (uh n1) hb)
 replace BB := bt BB hb
 have z2 : w2.heap.size ≤ w3.heap.size := Nat.le_trans g1 hb.size
 obtain ⟨b2, q2, rfl⟩ := RecAt.shape hp
 clear hp hb
 replace kb : Hid (Blk (w3.setCell ⟨w.heap.size, 2, none⟩ (.slice b2 m.smiths.length q2)) w.heap.size 32 #[.slice b0 m.rooms.length q0, .slice b1 m.guilds.length q1, .slice b2 m.smiths.length q2, .slice a3 m.desks.length p3, .slice a4 m.paces.length p4, .int .i64 m.now]) := hide ((uh kb).set 2 _)
 replace kr : Hid (Blk (w3.setCell ⟨w.heap.size, 2, none⟩ (.slice b2 m.smiths.length q2)) (w.heap.size + 1) 32 #[.slice none 0 0, .slice none 0 0, .slice none 0 0, .slice none 0 0, .slice none 0 0, .int .i64 0]) := hide ((uh kr).other (a := ⟨w.heap.size, 2, none⟩) (by show w.heap.size + 1 ≠ w.heap.size; omega) _)
 replace BB : Hid (Below w.heap.size w (w3.setCell ⟨w.heap.size, 2, none⟩ (.slice b2 m.smiths.length q2))) := hide ((uh BB).setCell (p := ⟨w.heap.size, 2, none⟩) (Nat.le_refl _) _)
 replace n0 := hide ((uh n0).set_old w.heap.size 2 (.slice b2 m.smiths.length q2) (by omega))
 replace n1 := hide (RecAt.set_old (uh n1) w.heap.size 2 (.slice b2 m.smiths.length q2) (by omega))
 replace n2 := hide (RecAt.set_old (uh n2) w.heap.size 2 (.slice b2 m.smiths.length q2) (by omega))
 have g2 : w3.heap.size ≤ (w3.setCell ⟨w.heap.size, 2, none⟩ (.slice b2 m.smiths.length q2)).heap.size := by simp
 generalize w3.setCell ⟨w.heap.size, 2, none⟩ (.slice b2 m.smiths.length q2) = X2 at *
 have c3 := (uh kb).cell (i := 3) (v := .slice a3 m.desks.length p3) rfl
 have HX := hide (((uh Hv).below (uh BB)).desks)
 have hl9 := (uh HF).desks
 have hlt9 := (uh kb).lt
 go_upto_region 5 with (at_builtin; refine wpList_append_recs tyD rfl (.tmp 16) (.tmp 18) 29 Tryz.underlying29 rfl X2.heap.size _ _ [] m.desks rfl rfl (recs_empty rfl (Nat.le_refl _)) (IsRec.below (uh HX) ((Below.refl _ _).alloc (Nat.le_refl _) _)) (by simp; omega) (by simp) ?_; intro u3 w4 hp9 hg9 hat9; rw [List.nil_append] at hp9; have hb9 : Below X2.heap.size X2 w4 := ((Below.refl _ _).alloc (Nat.le_refl _) _).trans ((Below.refl _ _).grown hg9 (by simp) (fun k e => by cases e; exact Nat.le_refl _)); have k9 := (uh kb).below hb9 (uh kb).lt; have o9 := k9.cell (i := 3) (v := .slice a3 m.desks.length p3) rfl; have f9 := k9.free 3; obtain ⟨a9, c9, hu9⟩ := RecAt.shape hp9; subst hu9; have hp := hide hp9; have hb := hide hb9; clear hp9 hb9 k9 hg9 hat9)
 clear c3 HX hl9 hlt9 o9 f9
 replace hp := uh hp
 replace hb := uh hb
 obtain ⟨u3, hu3⟩ : ∃ u, u = Value.slice a9 m.desks.length c9 := ⟨_, rfl⟩
 rw [← hu3] at hp ⊢
 clear hu3
 have n3 : Hid (DesksAt (w.heap.size + 2) w4 u3 m.desks) := hide (RecAt.mono hp (by omega))
 have M3 : Hid (∀ b, u3.ownBlock = some b → w3.heap.size ≤ b ∧ b < w4.heap.size) := hide (fun b e => ⟨Nat.le_trans g2 (RecAt.lt hp e).1, (RecAt.lt hp e).2⟩)
 replace kb := bl kb hb
 replace kr := bl kr hb
 replace n0 := hide ((uh n0).later hb)
 replace n1 := hide (RecAt.later (uh n1) hb)
 replace n2 := hide (RecAt.later (uh n2) hb)
 replace BB := bt BB hb
 have z3 : w3.heap.size ≤ w4.heap.size := Nat.le_trans g2 hb.size
 obtain ⟨b3, q3, rfl⟩ := RecAt.shape hp
 clear hp hb
 replace kb : Hid (Blk (w4.setCell ⟨w.heap.size, 3, none⟩ (.slice b3 m.desks.length q3)) w.heap.size 32 #[.slice b0 m.rooms.length q0, .slice b1 m.guilds.length q1, .slice b2 m.smiths.length q2, .slice b3 m.desks.length q3, .slice a4 m.paces.length p4, .int .i64 m.now]) := hide ((uh kb).set 3 _)
 replace kr : Hid (Blk (w4.setCell ⟨w.heap.size, 3, none⟩ (.slice b3 m.desks.length q3)) (w.heap.size + 1) 32 #[.slice none 0 0, .slice none 0 0, .slice none 0 0, .slice none 0 0, .slice none 0 0, .int .i64 0]) := hide ((uh kr).other (a := ⟨w.heap.size, 3, none⟩) (by show w.heap.size + 1 ≠ w.heap.size; omega) _)
 replace BB : Hid (Below w.heap.size w (w4.setCell ⟨w.heap.size, 3, none⟩ (.slice b3 m.desks.length q3))) := hide ((uh BB).setCell (p := ⟨w.heap.size, 3, none⟩) (Nat.le_refl _) _)
 replace n0 := hide ((uh n0).set_old w.heap.size 3 (.slice b3 m.desks.length q3) (by omega))
 replace n1 := hide (RecAt.set_old (uh n1) w.heap.size 3 (.slice b3 m.desks.length q3) (by omega))
 replace n2 := hide (RecAt.set_old (uh n2) w.heap.size 3 (.slice b3 m.desks.length q3) (by omega))
 replace n3 := hide (RecAt.set_old (uh n3) w.heap.size 3 (.slice b3 m.desks.length q3) (by omega))
 have g3 : w4.heap.size ≤ (w4.setCell ⟨w.heap.size, 3, none⟩ (.slice b3 m.desks.length q3)).heap.size := by simp
 generalize w4.setCell ⟨w.heap.size, 3, none⟩ (.slice b3 m.desks.length q3) = X3 at *
 have c4 := (uh kb).cell (i := 4) (v := .slice a4 m.paces.length p4) rfl
 have HX := hide (((uh Hv).below (uh BB)).paces)
 have hl9 := (uh HF).nums
 have hlt9 := (uh kb).lt
 go_upto_region 6 with (at_builtin; refine wpList_append_recs tyN rfl (.tmp 21) (.tmp 23) 30 Tryz.underlying30 rfl X3.heap.size _ _ [] m.paces rfl rfl (recs_empty rfl (Nat.le_refl _)) (IsRec.below (uh HX) ((Below.refl _ _).alloc (Nat.le_refl _) _)) (by simp; omega) (by simp) ?_; intro u4 w5 hp9 hg9 hat9; rw [List.nil_append] at hp9; have hb9 : Below X3.heap.size X3 w5 := ((Below.refl _ _).alloc (Nat.le_refl _) _).trans ((Below.refl _ _).grown hg9 (by simp) (fun k e => by cases e; exact Nat.le_refl _)); have k9 := (uh kb).below hb9 (uh kb).lt; have o9 := k9.cell (i := 4) (v := .slice a4 m.paces.length p4) rfl; have f9 := k9.free 4; obtain ⟨a9, c9, hu9⟩ := RecAt.shape hp9; subst hu9; have hp := hide hp9; have hb := hide hb9; clear hp9 hb9 k9 hg9 hat9)
 clear c4 HX hl9 hlt9 o9 f9
 replace hp := uh hp
 replace hb := uh hb
 obtain ⟨u4, hu4⟩ : ∃ u, u = Value.slice a9 m.paces.length c9 := ⟨_, rfl⟩
 rw [← hu4] at hp ⊢
 clear hu4
 have n4 : Hid (NumsAt (w.heap.size + 2) w5 u4 m.paces) := hide (RecAt.mono hp (by omega))
 have M4 : Hid (∀ b, u4.ownBlock = some b → w4.heap.size ≤ b ∧ b < w5.heap.size) := hide (fun b e => ⟨Nat.le_trans g3 (RecAt.lt hp e).1, (RecAt.lt hp e).2⟩)
 replace kb := bl kb hb
 replace kr := bl kr hb
 replace n0 := hide ((uh n0).later hb)
 replace n1 := hide (RecAt.later (uh n1) hb)
 replace n2 := hide (RecAt.later (uh n2) hb)
 replace n3 := hide (RecAt.later (uh n3) hb)
 replace BB := bt BB hb
 have z4 : w4.heap.size ≤ w5.heap.size := Nat.le_trans g3 hb.size
 obtain ⟨b4, q4, rfl⟩ := RecAt.shape hp
 clear hp hb
 replace kb : Hid (Blk (w5.setCell ⟨w.heap.size, 4, none⟩ (.slice b4 m.paces.length q4)) w.heap.size 32 #[.slice b0 m.rooms.length q0, .slice b1 m.guilds.length q1, .slice b2 m.smiths.length q2, .slice b3 m.desks.length q3, .slice b4 m.paces.length q4, .int .i64 m.now]) := hide ((uh kb).set 4 _)
 replace kr : Hid (Blk (w5.setCell ⟨w.heap.size, 4, none⟩ (.slice b4 m.paces.length q4)) (w.heap.size + 1) 32 #[.slice none 0 0, .slice none 0 0, .slice none 0 0, .slice none 0 0, .slice none 0 0, .int .i64 0]) := hide ((uh kr).other (a := ⟨w.heap.size, 4, none⟩) (by show w.heap.size + 1 ≠ w.heap.size; omega) _)
 replace BB : Hid (Below w.heap.size w (w5.setCell ⟨w.heap.size, 4, none⟩ (.slice b4 m.paces.length q4))) := hide ((uh BB).setCell (p := ⟨w.heap.size, 4, none⟩) (Nat.le_refl _) _)
 replace n0 := hide ((uh n0).set_old w.heap.size 4 (.slice b4 m.paces.length q4) (by omega))
 replace n1 := hide (RecAt.set_old (uh n1) w.heap.size 4 (.slice b4 m.paces.length q4) (by omega))
 replace n2 := hide (RecAt.set_old (uh n2) w.heap.size 4 (.slice b4 m.paces.length q4) (by omega))
 replace n3 := hide (RecAt.set_old (uh n3) w.heap.size 4 (.slice b4 m.paces.length q4) (by omega))
 replace n4 := hide (RecAt.set_old (uh n4) w.heap.size 4 (.slice b4 m.paces.length q4) (by omega))
 have g4 : w5.heap.size ≤ (w5.setCell ⟨w.heap.size, 4, none⟩ (.slice b4 m.paces.length q4)).heap.size := by simp
 generalize w5.setCell ⟨w.heap.size, 4, none⟩ (.slice b4 m.paces.length q4) = X4 at *
 obtain ⟨c0, c1, c2, c3, c4, c5⟩ := (uh kb).c6
 obtain ⟨o0, o1, o2, o3, o4, o5⟩ := (uh kr).c6
 obtain ⟨f0, f1, f2, f3, f4, f5⟩ := (uh kr).f6
 go_wp2_with fail
 refine bodyPost_ret (v := .agg #[.slice b0 m.rooms.length q0, .slice b1 m.guilds.length q1, .slice b2 m.smiths.length q2, .slice b3 m.desks.length q3, .slice b4 m.paces.length q4, .int .i64 m.now]) (by simp [results, Tryz.results44, go_sem, *]) rfl ⟨_, _, _, _, _, qs, rfl, ?_, ?_⟩
 ·refine FullSmy.mono (n₀ := w.heap.size + 2) (full_of w1.heap.size w2.heap.size w3.heap.size w4.heap.size ?_ (uh Hmap) ?_ ?_ ?_ ?_ (uh L0) (uh M1) (uh M2) (uh M3) (fun b e => (uh M4 b e).1) z1 z2 z3) (by omega)
  ·iterate 6 (refine OwnHall.set_old ?_ _ _ _ (by omega))
   exact uh n0
  ·iterate 6 (refine RecAt.set_old ?_ _ _ _ (by omega))
   exact uh n1
  ·iterate 6 (refine RecAt.set_old ?_ _ _ _ (by omega))
   exact uh n2
  ·iterate 6 (refine RecAt.set_old ?_ _ _ _ (by omega))
   exact uh n3
  ·iterate 6 (refine RecAt.set_old ?_ _ _ _ (by omega))
   exact uh n4
 ·iterate 6 (refine Below.setCell ?_ (by show _ ≤ w.heap.size + 1; omega) _)
  exact uh BB
def zeroM : SmyV := ⟨[], [], [], [], [], 0⟩
def whoB (m : SmyV) (who : Int) : Bool := inB who 0 ((m.smiths.length : Int) - 1) && !((recAt m.smiths who.toNat).1 == 0)
theorem whoB_of {m : SmyV} {who : Int} (h : whoB m who = true) : ∃ k : Nat, who = (k : Int) ∧ k < m.smiths.length ∧ (recAt m.smiths k).1 ≠ 0 := by
 unfold whoB at h
 simp only [Bool.and_eq_true, Bool.not_eq_true', beq_eq_false_iff_ne] at h
 have h1 := inB_of h.1
 exact ⟨who.toNat, by omega, by omega, h.2⟩
theorem few_of {m : SmyV} (h : Loose m) : Few m := by
 have hd := h.head
 unfold headB at hd
 simp only [Bool.and_eq_true, decide_eq_true_eq] at hd
 obtain ⟨h1, h2, h3, h4, h5, _⟩ := hd
 obtain ⟨r1, r2, r3, r4⟩ := hallB_of h1
 have hg := (guildsB_of h2).2
 refine ⟨by omega, fun r hr => ?_, by omega, by omega, by omega, by omega⟩
 have hrb := List.all_eq_true.1 r3 r hr
 unfold roomB at hrb
 simp only [Bool.and_eq_true] at hrb
 have := inB_of hrb.2.1
 omega
def comeB (m : SmyV) (s : SmithV) : Int := chosenV (pushS m s) (m.smiths.length : Int)
def comeV (m : SmyV) (rank may guild : Int) : SmyV × Int :=
 if smyB m then (if smithB (newS rank may guild) && decide (guild < m.guilds.length) then (if m.smiths.length = 12 then (m, 4) else (if comeB m (newS rank may guild) < 0 then (m, 2) else
  (turnV (setS (pushS m (newS rank may guild)) m.smiths.length (sitS (newS rank may guild) (comeB m (newS rank may guild)) (mark m (comeB m (newS rank may guild))))), 0))) else (m, 3)) else (zeroM, 3)
theorem new_pres {rank may guild : Int} (h : smithB (newS rank may guild) = true) : presB (newS rank may guild) = true := by
 unfold smithB at h
 rw [goneB_st (by show (1 : Int) ≠ 0; omega), Bool.false_or] at h
 exact h
theorem new_here {m : SmyV} (h : Loose m) {rank may guild : Int} (hs : smithB (newS rank may guild) = true) (hg : guild < m.guilds.length) : Loose (pushS m (newS rank may guild)) ∨ m.smiths.length ≥ 12 := by
 by_cases hl : m.smiths.length < 12
 ·left
  obtain ⟨j, hj, _⟩ := h.openD
  exact h.pushS hl (here_iff.2 (.inr ⟨new_pres hs, hg, by show (0 : Int) < _; omega⟩)) (seat_away rfl)
 ·right; omega
theorem mark_band {m : SmyV} (h : Loose m) {b : Nat} (hb : b < m.desks.length) : bandB (mark m (b : Int)) (recAt m.desks b).2.2 = true := by
 have hmk : mark m (b : Int) = (recAt m.desks b).2.2 := by unfold mark; simp
 obtain ⟨k0, k1⟩ := deskB_of (h.desk b hb)
 rw [hmk]
 exact bandB_t (by omega) (by omega) (by omega) (by omega) (by omega) (by omega)
theorem smy_twelve {m : SmyV} (h : Loose m) : m.smiths.length ≤ 12 := by
 have hd := h.head
 unfold headB at hd
 simp only [Bool.and_eq_true, decide_eq_true_eq] at hd
 exact hd.2.2.1
theorem come_right {m : SmyV} (h : smyB m = true) (rank may guild : Int) : smyB (comeV m rank may guild).1 = true := by
 unfold comeV
 rw [h]
 simp only [if_true]
 split
 ·rename_i hs
  simp only [Bool.and_eq_true, decide_eq_true_eq] at hs
  split
  ·exact h
  ·rename_i hl
   split
   ·exact h
   ·rename_i hb
    have hlo := smy_loose h
    have h12 := smy_twelve hlo
    have hx : Loose (pushS m (newS rank may guild)) := by
     rcases new_here hlo hs.1 hs.2 with e | e
     ·exact e
     ·omega
    rcases chosen_or (pushS m (newS rank may guild)) (m.smiths.length : Int) with ⟨e, _⟩ | ⟨b, hbl, e, hm⟩
    ·exact absurd (show comeB m (newS rank may guild) < 0 by unfold comeB; rw [e]; omega) hb
    ·have ec : comeB m (newS rank may guild) = (b : Int) := e
     rw [ec]
     unfold mayAt at hm
     simp only [Bool.and_eq_true, Int.toNat_natCast] at hm
     have hat : recAt (pushS m (newS rank may guild)).smiths m.smiths.length = newS rank may guild := by
      show recAt (m.smiths ++ [newS rank may guild]) m.smiths.length = _
      rw [recAt_push, if_pos rfl]
     rw [hat] at hm
     obtain ⟨k1, k2⟩ := keep_sit (m := pushS m (newS rank may guild)) (s := newS rank may guild) (b := b) (had := mark m (b : Int)) hx (new_pres hs.1) hs.2 hbl hm.1 hm.2 (mark_band hlo hbl)
     exact turn_right (hx.setS (by unfold pushS; simp) k1 k2)
 ·exact h
def wakeHad (m : SmyV) (s : SmithV) (b : Int) : Int := placedV (movedV (hadS s) (mark m s.2.1) (mark m b)) (mark m b)
def wakeX (m : SmyV) (k : Nat) (b : Int) : SmyV := setS m k (sitS (recAt m.smiths k) b (wakeHad m (recAt m.smiths k) b))
def wakeV (m : SmyV) (who : Int) : SmyV × Int :=
 if smyB m then (if whoB m who then (if (recAt m.smiths who.toNat).1 = 1 then (if chosenV m who < 0 then (m, 2) else (if looseB (wakeX m who.toNat (chosenV m who)) then (turnV (wakeX m who.toNat (chosenV m who)), 0) else (m, 4))) else (m, 2)) else (m, 1)) else (zeroM, 3)
theorem wake_right {m : SmyV} (h : smyB m = true) (who : Int) : smyB (wakeV m who).1 = true := by
 unfold wakeV
 rw [h]
 simp only [if_true]
 split
 ·split
  ·split
   ·exact h
   ·split
    ·rename_i hl
     exact turn_right (loose_of hl)
    ·exact h
  ·exact h
 ·exact h
theorem setS_setS (m : SmyV) (k : Nat) (s t : SmithV) : setS (setS m k s) k t = setS m k t := by unfold setS; simp
theorem turnK_loose {m : SmyV} (h : Loose m) (k : Nat) (hk : k ≤ m.desks.length) : Loose (turnK m k) := by
 obtain ⟨e1, e2, e3, e4, e5, e6⟩ := turnK_same m k
 have hd := fun j => turnK_desk m j k hk
 have hopen : ∀ j, (recAt (turnK m k).desks j).1 = (recAt m.desks j).1 := by
  intro j
  rw [hd j]
  split
  ·unfold turnedD; split <;> rfl
  ·rfl
 have hmark : ∀ j, j < m.desks.length → (-900000000000 ≤ (recAt (turnK m k).desks j).2.2 ∧ (recAt (turnK m k).desks j).2.2 ≤ 900000000000) ∧ (recAt m.desks j).2.2 ≤ (recAt (turnK m k).desks j).2.2 ∧ ((recAt (turnK m k).desks j).2.2 ≤ (recAt m.desks j).2.2 ∨ ∀ i, i < m.smiths.length → (recAt m.smiths i).2.1 = (j : Int) → presS (recAt m.smiths i) = true → (recAt (turnK m k).desks j).2.2 ≤ hadS (recAt m.smiths i)) := by
  intro j hj
  obtain ⟨k0, k1⟩ := deskB_of (h.desk j hj)
  rw [hd j]
  split
  ·unfold turnedD
   split
   ·exact ⟨⟨k0, k1⟩, Int.le_refl _, .inl (Int.le_refl _)⟩
   ·rename_i e t hq
    obtain ⟨_, i, hi, hib, hip, rfl⟩ := firstAt_some hq
    obtain ⟨_, _, _, _, hband⟩ := h.at hi hip
    obtain ⟨a0, a1, _⟩ := bandB_of hband
    have hm := marked_in (m := (recAt m.desks j).2.2) (f := hadS (recAt m.smiths i)) (by omega) (by omega) a0 a1
    show (-900000000000 ≤ markedV _ _ ∧ markedV _ _ ≤ 900000000000) ∧ _ ≤ markedV _ _ ∧ (markedV _ _ ≤ _ ∨ _)
    rw [hm]
    refine ⟨by omega, by omega, ?_⟩
    by_cases hc : hadS (recAt m.smiths i) ≤ (recAt m.desks j).2.2
    ·left; omega
    ·right
     intro i' hi' hb' hp'
     have := first_least hq hi' hb' hp'
     simp only at this
     show min (max (recAt m.desks j).2.2 (hadS (recAt m.smiths i))) 900000000000 ≤ _
     omega
  ·exact ⟨⟨k0, k1⟩, Int.le_refl _, .inl (Int.le_refl _)⟩
 refine ⟨?_, ?_, ?_, ?_, ?_, ?_⟩
 ·have := h.head
  unfold headB at this ⊢
  rw [e1, e2, e3, e4, e5, e6]
  exact this
 ·intro j hj
  have hj' : j < m.desks.length := by omega
  exact inB_t (hmark j hj').1.1 (hmark j hj').1.2
 ·intro j hj
  have hj' : j < m.paces.length := by rw [e3] at hj; exact hj
  have := h.pace j hj'
  unfold paceInB at this ⊢
  rw [e1, e3]
  exact this
 ·intro i hi
  have hi' : i < m.smiths.length := by omega
  rw [hereB_same (m := m) (by rw [e2]) (by rw [e6])]
  rw [turnK_smith m hi']
  split
  ·rename_i hp
   exact hereB_st (h.here i hi') hp.2 (by split <;> omega) (by split <;> omega)
  ·exact h.here i hi'
 ·intro i hi
  have hi' : i < m.smiths.length := by omega
  have ha := turnK_alike m k i hi'
  unfold seatB
  show (!presS (recAt (turnK m k).smiths i) || _) = true
  rw [ha.2.1]
  cases hp : presS (recAt m.smiths i)
  ·rfl
  ·obtain ⟨b0, b1, ho, hm, hband⟩ := h.at hi' hp
   obtain ⟨a0, a1, a2, a3, a4, a5⟩ := bandB_of hband
   obtain ⟨⟨q0, q1⟩, q2, q3⟩ := hmark (recAt m.smiths i).2.1.toNat (by omega)
   have hmay : (recAt (turnK m k).smiths i).2.2.2.1 = (recAt m.smiths i).2.2.2.1 := by
    rw [turnK_smith m hi']; split <;> rfl
   show (!true || ((recAt (turnK m k).desks (recAt (turnK m k).smiths i).2.1.toNat).1 && (bitB (recAt (turnK m k).smiths i).2.2.2.1 (recAt (turnK m k).smiths i).2.1 && bandB (hadS (recAt (turnK m k).smiths i)) (recAt (turnK m k).desks (recAt (turnK m k).smiths i).2.1.toNat).2.2))) = true
   rw [ha.1, ha.2.2, hmay, hopen, ho, hm]
   rw [bandB_t a0 a1 (by omega) (by omega) ?_ (by omega)]
   ·rfl
   ·rcases q3 with q3 | q3
    ·omega
    ·have := q3 i hi' (by omega) hp
     omega
 ·obtain ⟨j, hj, ho⟩ := h.openD
  exact ⟨j, by omega, by rw [hopen]; exact ho⟩
theorem recs_ext {α : Type} [Inhabited α] {xs ys : List α} (hl : xs.length = ys.length) (h : ∀ i, i < xs.length → recAt xs i = recAt ys i) : xs = ys := by
 apply List.ext_getElem hl
 intro i h1 h2
 have := h i h1
 unfold recAt at this
 rwa [List.getD_eq_getElem?_getD, List.getD_eq_getElem?_getD, List.getElem?_eq_getElem h1, List.getElem?_eq_getElem h2] at this
theorem turn_way {ss : List SmithV} {b : Int} {e : PaceV} {t : List PaceV} (h : atV ss b ss.length = e :: t) : (waitAll ss (e :: t)).set e.2.toNat (stS (recAt (waitAll ss (e :: t)) e.2.toNat) 3) = waitAll (ss.set e.2.toNat (stS (recAt ss e.2.toNat) 3)) t := by
 have hmem : ∀ x ∈ e :: t, 0 ≤ x.2 ∧ x.2 < ss.length := fun x hx => by
  rw [← h] at hx
  obtain ⟨i, hi, _, _, rfl⟩ := (atV_mem ss b x ss.length).1 hx
  exact ⟨by show (0 : Int) ≤ (i : Int); omega, by show (i : Int) < _; omega⟩
 have hw := atV_whos ss b ss.length
 rw [h, List.pairwise_cons] at hw
 obtain ⟨he0, he1⟩ := hmem e (List.mem_cons_self ..)
 have hel : e.2.toNat < ss.length := by omega
 have hse : ∀ x ∈ t, 0 ≤ x.2 ∧ x.2 < (ss.set e.2.toNat (stS (recAt ss e.2.toNat) 3)).length := fun x hx => by rw [List.length_set]; exact hmem x (List.mem_cons_of_mem _ hx)
 refine recs_ext (by rw [List.length_set, waitAll_len, waitAll_len, List.length_set]) fun i hi => ?_
 rw [List.length_set, waitAll_len] at hi
 rw [recAt_set (by rw [waitAll_len]; exact hel)]
 obtain ⟨p1, p2⟩ := waitAll_at (e :: t) ss i hmem
 obtain ⟨r1, r2⟩ := waitAll_at t (ss.set e.2.toNat (stS (recAt ss e.2.toNat) 3)) i hse
 by_cases hie : i = e.2.toNat
 ·subst hie
  have hn : ∀ x ∈ t, x.2 ≠ ((e.2.toNat : Nat) : Int) := fun x hx e9 => hw.1 x hx (by omega)
  rw [if_pos rfl, r2 hn, recAt_set hel, if_pos rfl, p1 ⟨e, List.mem_cons_self .., by omega⟩]
  rfl
 ·rw [if_neg hie]
  by_cases hx : ∃ x ∈ t, x.2 = (i : Int)
  ·obtain ⟨x, hx, hxi⟩ := hx
   rw [p1 ⟨x, List.mem_cons_of_mem _ hx, hxi⟩, r1 ⟨x, hx, hxi⟩, recAt_set hel, if_neg hie]
  ·have hn : ∀ x ∈ t, x.2 ≠ (i : Int) := fun x hx' e9 => hx ⟨x, hx', e9⟩
   rw [p2 (fun x hx' => by
    rcases List.mem_cons.1 hx' with rfl | hx'
    ·omega
    ·exact hn x hx'), r2 hn, recAt_set hel, if_neg hie]
def turnedV (m : SmyV) : SmyV := if looseB m then turnV m else zeroM
theorem smith_equal (x0 x1 x2 x3 x4 x5 x6 x7 x8 x9 x10 y0 y1 y2 y3 y4 y5 y6 y7 y8 y9 y10 : Int) (w : World) : (Op.equalIn 10000 40 (.agg #[.int .i64 x0, .int .i64 x1, .int .i64 x2, .int .i64 x3, .int .i64 x4, .int .i64 x5, .int .i64 x6, .int .i64 x7, .int .i64 x8, .int .i64 x9, .int .i64 x10]) (.agg #[.int .i64 y0, .int .i64 y1, .int .i64 y2, .int .i64 y3, .int .i64 y4, .int .i64 y5, .int .i64 y6, .int .i64 y7, .int .i64 y8, .int .i64 y9, .int .i64 y10])).run Tryz.prog w = .ok (sameB (x0, x1, x2, x3, x4, x5, x6, x7, x8, x9, x10) (y0, y1, y2, y3, y4, y5, y6, y7, y8, y9, y10)) w := by
 have u := Tryz.underlying2
 have a := Tryz.isAgg2
 have z := Tryz.sizeOf2
 have hS : Tryz.prog.underlying 40 = some (.struct (Tryz.prog.fieldsOf 40)) := by kernel_rfl
 have hp : Tryz.prog.stoodInHeld 40 = false := by kernel_rfl
 rw [show (10000 : Nat) = 9999 + 1 from rfl, run_equalIn_agg w 9999 40 _ _ hS hp]
 simp only [Program.fieldsOf, Tryz.underlying40]
 go_simp
 unfold sameB
 by_cases h0 : x0 = y0
 rotate_left
 ·simp [h0]
 subst h0
 by_cases h1 : x1 = y1
 rotate_left
 ·simp [h1]
 subst h1
 by_cases h2 : x2 = y2
 rotate_left
 ·simp [h2]
 subst h2
 by_cases h3 : x3 = y3
 rotate_left
 ·simp [h3]
 subst h3
 by_cases h4 : x4 = y4
 rotate_left
 ·simp [h4]
 subst h4
 by_cases h5 : x5 = y5
 rotate_left
 ·simp [h5]
 subst h5
 by_cases h6 : x6 = y6
 rotate_left
 ·simp [h6]
 subst h6
 by_cases h7 : x7 = y7
 rotate_left
 ·simp [h7]
 subst h7
 by_cases h8 : x8 = y8
 rotate_left
 ·simp [h8]
 subst h8
 by_cases h9 : x9 = y9
 rotate_left
 ·simp [h9]
 subst h9
 by_cases h10 : x10 = y10
 rotate_left
 ·simp [h10]
 subst h10
 simp
theorem smith_eql (x0 x1 x2 x3 x4 x5 x6 x7 x8 x9 x10 y0 y1 y2 y3 y4 y5 y6 y7 y8 y9 y10 : Int) (w : World) : (binOp .eql 40 (.agg #[.int .i64 x0, .int .i64 x1, .int .i64 x2, .int .i64 x3, .int .i64 x4, .int .i64 x5, .int .i64 x6, .int .i64 x7, .int .i64 x8, .int .i64 x9, .int .i64 x10]) (.agg #[.int .i64 y0, .int .i64 y1, .int .i64 y2, .int .i64 y3, .int .i64 y4, .int .i64 y5, .int .i64 y6, .int .i64 y7, .int .i64 y8, .int .i64 y9, .int .i64 y10])).run Tryz.prog w = .ok (.bool (sameB (x0, x1, x2, x3, x4, x5, x6, x7, x8, x9, x10) (y0, y1, y2, y3, y4, y5, y6, y7, y8, y9, y10))) w := by
 rw [run_eql_struct, smith_equal]; rfl
theorem smith_neq (x0 x1 x2 x3 x4 x5 x6 x7 x8 x9 x10 y0 y1 y2 y3 y4 y5 y6 y7 y8 y9 y10 : Int) (w : World) : (binOp .neq 40 (.agg #[.int .i64 x0, .int .i64 x1, .int .i64 x2, .int .i64 x3, .int .i64 x4, .int .i64 x5, .int .i64 x6, .int .i64 x7, .int .i64 x8, .int .i64 x9, .int .i64 x10]) (.agg #[.int .i64 y0, .int .i64 y1, .int .i64 y2, .int .i64 y3, .int .i64 y4, .int .i64 y5, .int .i64 y6, .int .i64 y7, .int .i64 y8, .int .i64 y9, .int .i64 y10])).run Tryz.prog w = .ok (.bool (!sameB (x0, x1, x2, x3, x4, x5, x6, x7, x8, x9, x10) (y0, y1, y2, y3, y4, y5, y6, y7, y8, y9, y10))) w := by
 rw [run_neq_struct, smith_equal]; rfl
theorem implWeightOf_v {r x : Int} (h : weightV r = x) (w : World) : Calls Tryz.prog 301 #[.int .i64 r] w fun e w' => e = .returned (.int .i64 x) ∧ w' = w := by
 have := implWeightOf_any r w; rw [h] at this; exact this
theorem specWeightOf_v {r x : Int} (h : weightV r = x) (w : World) : Calls Tryz.prog 111 #[.int .i64 r] w fun e w' => e = .returned (.int .i64 x) ∧ w' = w := by
 have := specWeightOf_any r w; rw [h] at this; exact this
attribute [local go_sem ↓] smith_eql smith_neq
theorem specHad_any (n : Int) (w : World) : Calls Tryz.prog 110 #[.int .i64 n] w fun e w' => e = .returned (.bool (inB n (-1000000000000) 1000000000000)) ∧ w' = w := by
 go_enter Tryz.func110, Tryz.ntmps110
 go_wp2_with (go_at_call 56; refine (l1In_any _ _ _ _).mono ?_; rintro e w' ⟨rfl, rfl⟩)
 go_ret
 exact ⟨rfl, rfl⟩
theorem specSmithOk_any (st be rk my gu lo hi hd ca ut wk : Int) (w : World) : Calls Tryz.prog 45 #[.agg #[.int .i64 st, .int .i64 be, .int .i64 rk, .int .i64 my, .int .i64 gu, .int .i64 lo, .int .i64 hi, .int .i64 hd, .int .i64 ca, .int .i64 ut, .int .i64 wk]] w fun e w' => e = .returned (.bool (smithB (st, be, rk, my, gu, lo, hi, hd, ca, ut, wk))) ∧ Below w.heap.size w w' := by
 by_cases hst : st = 0
 ·subst hst
  unfold smithB
  rw [presB_st rfl, Bool.or_false]
  obtain ⟨q, hq⟩ : ∃ q, goneB (0, be, rk, my, gu, lo, hi, hd, ca, ut, wk) = q := ⟨_, rfl⟩
  rw [hq]
  have hz : sameB (0, be, rk, my, gu, lo, hi, hd, ca, ut, wk) (0, 0, 0, 0, 0, 0, 0, 0, 0, 0, 0) = q := hq
  clear hq
  go_enter Tryz.func45, Tryz.ntmps45
  go_wp2_with fail
  go_ret
  exact ⟨rfl, (Below.refl _ _).alloc (Nat.le_refl _) _⟩
 ·have hne : (st == 0) = false := by simpa using hst
  unfold smithB
  rw [goneB_st hst, Bool.false_or]
  unfold presB
  simp only
  obtain ⟨x0, x1⟩ := weight_in rk
  obtain ⟨x, hx⟩ : ∃ x, weightV rk = x := ⟨_, rfl⟩
  rw [hx] at x0 x1 ⊢
  have Hw := hide hx
  have hwr : IntKind.i64.wrap (x - 1) = x - 1 := by rw [IntKind.wrap_i64]; omega
  clear hx hst
  cases h0 : inB st 1 3
  ·go_enter Tryz.func45, Tryz.ntmps45
   go_wp2_with (first | (go_at_call 56; refine (l1In_any _ _ _ _).mono ?_; rintro e w' ⟨rfl, rfl⟩) | (go_at_call 108; refine (l3Rank_any _ _).mono ?_; rintro e w' ⟨rfl, rfl⟩) | (go_at_call 109; refine (l8Pair_any _ _ _).mono ?_; rintro e w' ⟨rfl, rfl⟩))
   go_ret
   exact ⟨rfl, (Below.refl _ _).alloc (Nat.le_refl _) _⟩
  cases h1 : inB be 0 7
  ·go_enter Tryz.func45, Tryz.ntmps45
   go_wp2_with (first | (go_at_call 56; refine (l1In_any _ _ _ _).mono ?_; rintro e w' ⟨rfl, rfl⟩) | (go_at_call 108; refine (l3Rank_any _ _).mono ?_; rintro e w' ⟨rfl, rfl⟩) | (go_at_call 109; refine (l8Pair_any _ _ _).mono ?_; rintro e w' ⟨rfl, rfl⟩))
   go_ret
   exact ⟨rfl, (Below.refl _ _).alloc (Nat.le_refl _) _⟩
  cases h2 : inB rk (-5) 5
  ·go_enter Tryz.func45, Tryz.ntmps45
   go_wp2_with (first | (go_at_call 56; refine (l1In_any _ _ _ _).mono ?_; rintro e w' ⟨rfl, rfl⟩) | (go_at_call 108; refine (l3Rank_any _ _).mono ?_; rintro e w' ⟨rfl, rfl⟩) | (go_at_call 109; refine (l8Pair_any _ _ _).mono ?_; rintro e w' ⟨rfl, rfl⟩))
   go_ret
   exact ⟨rfl, (Below.refl _ _).alloc (Nat.le_refl _) _⟩
  cases h3 : inB my 1 255
  ·go_enter Tryz.func45, Tryz.ntmps45
   go_wp2_with (first | (go_at_call 56; refine (l1In_any _ _ _ _).mono ?_; rintro e w' ⟨rfl, rfl⟩) | (go_at_call 108; refine (l3Rank_any _ _).mono ?_; rintro e w' ⟨rfl, rfl⟩) | (go_at_call 109; refine (l8Pair_any _ _ _).mono ?_; rintro e w' ⟨rfl, rfl⟩))
   go_ret
   exact ⟨rfl, (Below.refl _ _).alloc (Nat.le_refl _) _⟩
  cases h4 : inB gu (-1) 5
  ·go_enter Tryz.func45, Tryz.ntmps45
   go_wp2_with (first | (go_at_call 56; refine (l1In_any _ _ _ _).mono ?_; rintro e w' ⟨rfl, rfl⟩) | (go_at_call 108; refine (l3Rank_any _ _).mono ?_; rintro e w' ⟨rfl, rfl⟩) | (go_at_call 109; refine (l8Pair_any _ _ _).mono ?_; rintro e w' ⟨rfl, rfl⟩))
   go_ret
   exact ⟨rfl, (Below.refl _ _).alloc (Nat.le_refl _) _⟩
  cases h5 : pairB lo hi
  ·go_enter Tryz.func45, Tryz.ntmps45
   go_wp2_with (first | (go_at_call 56; refine (l1In_any _ _ _ _).mono ?_; rintro e w' ⟨rfl, rfl⟩) | (go_at_call 108; refine (l3Rank_any _ _).mono ?_; rintro e w' ⟨rfl, rfl⟩) | (go_at_call 109; refine (l8Pair_any _ _ _).mono ?_; rintro e w' ⟨rfl, rfl⟩))
   go_ret
   exact ⟨rfl, (Below.refl _ _).alloc (Nat.le_refl _) _⟩
  cases h6 : inB hd (-1000000000000) 1000000000000
  ·go_enter Tryz.func45, Tryz.ntmps45
   go_wp2_with (first | (go_at_call 56; refine (l1In_any _ _ _ _).mono ?_; rintro e w' ⟨rfl, rfl⟩) | (go_at_call 108; refine (l3Rank_any _ _).mono ?_; rintro e w' ⟨rfl, rfl⟩) | (go_at_call 109; refine (l8Pair_any _ _ _).mono ?_; rintro e w' ⟨rfl, rfl⟩))
   go_quiet (first | exact Calls.quiet_of_same (l1In_any _ _ _ _) | exact Calls.quiet_of_same (specHad_any _ _) | exact Calls.quiet_of_same (specWeightOf_v (uh Hw) _) | exact Calls.quiet_of_same (guildForce_any _ _))
   go_wp2_with fail
   go_ret
   exact ⟨rfl, drewN_below ((Below.refl _ _).alloc (Nat.le_refl _) _) _⟩
  cases h7 : inB ca 0 (x - 1)
  ·go_enter Tryz.func45, Tryz.ntmps45
   go_wp2_with (first | (go_at_call 56; refine (l1In_any _ _ _ _).mono ?_; rintro e w' ⟨rfl, rfl⟩) | (go_at_call 108; refine (l3Rank_any _ _).mono ?_; rintro e w' ⟨rfl, rfl⟩) | (go_at_call 109; refine (l8Pair_any _ _ _).mono ?_; rintro e w' ⟨rfl, rfl⟩))
   go_quiet (first | exact Calls.quiet_of_same (l1In_any _ _ _ _) | exact Calls.quiet_of_same (specHad_any _ _) | exact Calls.quiet_of_same (specWeightOf_v (uh Hw) _) | exact Calls.quiet_of_same (guildForce_any _ _))
   go_wp2_with fail
   go_ret
   exact ⟨rfl, drewN_below ((Below.refl _ _).alloc (Nat.le_refl _) _) _⟩
  cases h8 : inB ut 0 1024
  ·go_enter Tryz.func45, Tryz.ntmps45
   go_wp2_with (first | (go_at_call 56; refine (l1In_any _ _ _ _).mono ?_; rintro e w' ⟨rfl, rfl⟩) | (go_at_call 108; refine (l3Rank_any _ _).mono ?_; rintro e w' ⟨rfl, rfl⟩) | (go_at_call 109; refine (l8Pair_any _ _ _).mono ?_; rintro e w' ⟨rfl, rfl⟩))
   go_quiet (first | exact Calls.quiet_of_same (l1In_any _ _ _ _) | exact Calls.quiet_of_same (specHad_any _ _) | exact Calls.quiet_of_same (specWeightOf_v (uh Hw) _) | exact Calls.quiet_of_same (guildForce_any _ _))
   go_wp2_with fail
   go_ret
   exact ⟨rfl, drewN_below ((Below.refl _ _).alloc (Nat.le_refl _) _) _⟩
  cases h9 : inB wk 0 100000000000
  ·go_enter Tryz.func45, Tryz.ntmps45
   go_wp2_with (first | (go_at_call 56; refine (l1In_any _ _ _ _).mono ?_; rintro e w' ⟨rfl, rfl⟩) | (go_at_call 108; refine (l3Rank_any _ _).mono ?_; rintro e w' ⟨rfl, rfl⟩) | (go_at_call 109; refine (l8Pair_any _ _ _).mono ?_; rintro e w' ⟨rfl, rfl⟩))
   go_quiet (first | exact Calls.quiet_of_same (l1In_any _ _ _ _) | exact Calls.quiet_of_same (specHad_any _ _) | exact Calls.quiet_of_same (specWeightOf_v (uh Hw) _) | exact Calls.quiet_of_same (guildForce_any _ _))
   go_wp2_with fail
   go_ret
   exact ⟨rfl, drewN_below ((Below.refl _ _).alloc (Nat.le_refl _) _) _⟩
  go_enter Tryz.func45, Tryz.ntmps45
  go_wp2_with (first | (go_at_call 56; refine (l1In_any _ _ _ _).mono ?_; rintro e w' ⟨rfl, rfl⟩) | (go_at_call 108; refine (l3Rank_any _ _).mono ?_; rintro e w' ⟨rfl, rfl⟩) | (go_at_call 109; refine (l8Pair_any _ _ _).mono ?_; rintro e w' ⟨rfl, rfl⟩))
  go_quiet (first | exact Calls.quiet_of_same (l1In_any _ _ _ _) | exact Calls.quiet_of_same (specHad_any _ _) | exact Calls.quiet_of_same (specWeightOf_v (uh Hw) _) | exact Calls.quiet_of_same (guildForce_any _ _))
  go_wp2_with fail
  go_ret
  exact ⟨rfl, drewN_below ((Below.refl _ _).alloc (Nat.le_refl _) _) _⟩
end Go.Proofs.YthbbahagpmdooaaGreatDoor
namespace Go.Proofs.YthbbahagpmdooaaGreatDoor
open Go.ChangeShapes Go.WideShapes Go.ChangeAt Go.RowKit Go.Sort
set_option linter.unusedVariables false
theorem l11Present_any (st be rk my gu lo hi hd ca ut wk : Int) (w : World) : Calls Tryz.prog 52 #[.agg #[.int .i64 st, .int .i64 be, .int .i64 rk, .int .i64 my, .int .i64 gu, .int .i64 lo, .int .i64 hi, .int .i64 hd, .int .i64 ca, .int .i64 ut, .int .i64 wk]] w fun e w' =>
  e = .returned (.bool (presS (st, be, rk, my, gu, lo, hi, hd, ca, ut, wk))) ∧ Below w.heap.size w w' := by
 unfold presS
 simp only
 cases h2 : (st == 2)
 all_goals
  go_enter Tryz.func52, Tryz.ntmps52
  go_wp2_with fail
  go_ret
  exact ⟨by first | rfl | (simp), (Below.refl _ _).alloc (Nat.le_refl _) _⟩
theorem specInBand_any (h m : Int) (w : World) : Calls Tryz.prog 124 #[.int .i64 h, .int .i64 m] w fun e w' => e = .returned (.bool (bandB h m)) ∧ w' = w := by
 unfold bandB
 cases h1 : inB h (-1000000000000) 1000000000000
 ·go_enter Tryz.func124, Tryz.ntmps124
  go_wp2_with (first | (go_at_call 110; refine (specHad_any _ _).mono ?_; rintro e w' ⟨rfl, rfl⟩) | (go_at_call 56; refine (l1In_any _ _ _ _).mono ?_; rintro e w' ⟨rfl, rfl⟩))
  go_ret
  exact ⟨rfl, rfl⟩
 cases h2 : inB m (-1000000000000) 1000000000000
 ·go_enter Tryz.func124, Tryz.ntmps124
  go_wp2_with (first | (go_at_call 110; refine (specHad_any _ _).mono ?_; rintro e w' ⟨rfl, rfl⟩) | (go_at_call 56; refine (l1In_any _ _ _ _).mono ?_; rintro e w' ⟨rfl, rfl⟩))
  go_ret
  exact ⟨rfl, rfl⟩
 obtain ⟨a0, a1⟩ := inB_of h1
 obtain ⟨b0, b1⟩ := inB_of h2
 go_enter Tryz.func124, Tryz.ntmps124
 go_wp2_with (first | (go_at_call 110; refine (specHad_any _ _).mono ?_; rintro e w' ⟨rfl, rfl⟩) | (go_at_call 56; refine (l1In_any _ _ _ _).mono ?_; rintro e w' ⟨rfl, rfl⟩))
 go_ret
 exact ⟨rfl, rfl⟩
end Go.Proofs.YthbbahagpmdooaaGreatDoor
