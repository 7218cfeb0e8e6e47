/- Part 8 of what the proof rests on. No condition but those that a theorem names. -/
import Derived.Test.YthbbahagpmdooaaGreatDoorXw07
import Derived.LaidEql
import Derived.Stop.Asserts
import Derived.RowKitTokens
import Derived.Below
set_option maxHeartbeats 8000000
set_option maxRecDepth 100000
namespace Go.Proofs.YthbbahagpmdooaaGreatDoor
open Go.ChangeShapes Go.WideShapes Go.ChangeAt Go.RowKit Go.Sort
set_option linter.unusedVariables false
theorem markQ_vals : ∀ (qs : List (RoomV × Value)) (k : Int), (markQ k qs).map (·.2) = qs.map (·.2)
 | [], _ => rfl
 | q :: qs, k => by
  have := markQ_vals qs (k + 1 + 2 * (q.1.2.length : Int))
  simp only [markQ, List.map_cons]
  rw [this]
theorem markQ_mem {qs : List (RoomV × Value)} {k : Int} {q : RoomV × Value} (h : q ∈ markQ k qs) : ∃ q' ∈ qs, q'.2 = q.2 := by
 have : q.2 ∈ (markQ k qs).map (·.2) := List.mem_map.2 ⟨q, h, rfl⟩
 rw [markQ_vals] at this
 exact List.mem_map.1 this
theorem OffHall.marked {u v : Value} {qs : List (RoomV × Value)} (h : OffHall u v qs) (k : Int) : OffHall u v (markQ k qs) :=
 ⟨h.1, fun q hq => by obtain ⟨q', h1, h2⟩ := markQ_mem hq; rw [← h2]; exact h.2 q' h1⟩
structure SmyOnly (v0 v1 v2 v3 v4 : Value) (qs : List (RoomV × Value)) (w w' : World) : Prop where
 os : w'.os = w.os
 tape : w'.tape = w.tape
 output : w'.output = w.output
 size : w.heap.size ≤ w'.heap.size
 block : ∀ k, k < w.heap.size → v0.ownBlock ≠ some k → (∀ q ∈ qs, q.2.ownBlock ≠ some k) → v1.ownBlock ≠ some k → v2.ownBlock ≠ some k → v3.ownBlock ≠ some k → v4.ownBlock ≠ some k → w'.heap[k]? = w.heap[k]?
def markM (k : Int) (m : SmyV) (qs : List (RoomV × Value)) : SmyV :=
 { rooms := (markQ k qs).map (·.1), guilds := markL mkGuild 3 (kEnd k qs) m.guilds.length, smiths := markL mkSmith 11 (kEnd k qs + 3 * (m.guilds.length : Int)) m.smiths.length, desks := markL mkDesk 3 (kEnd k qs + 3 * (m.guilds.length : Int) + 11 * (m.smiths.length : Int)) m.desks.length, paces := marks (kEnd k qs + 3 * (m.guilds.length : Int) + 11 * (m.smiths.length : Int) + 3 * (m.desks.length : Int)) m.paces.length, now := m.now }
def endM (k : Int) (m : SmyV) (qs : List (RoomV × Value)) : Int := kEnd k qs + 3 * (m.guilds.length : Int) + 11 * (m.smiths.length : Int) + 3 * (m.desks.length : Int) + (m.paces.length : Int)
theorem small_qs {m : SmyV} {qs : List (RoomV × Value)} (hs : Small m.rooms) (hm : qs.map (·.1) = m.rooms) : qs.length ≤ 1048576 ∧ ∀ q ∈ qs, q.1.2.length ≤ 1048576 := by
 have hl : qs.length = m.rooms.length := by rw [← hm, List.length_map]
 refine ⟨by have := hs.1; omega, fun q hq => ?_⟩
 have hq' : q.1 ∈ m.rooms := by rw [← hm]; exact List.mem_map.2 ⟨q, hq, rfl⟩
 obtain ⟨j, hj, e⟩ := List.getElem_of_mem hq'
 have := hs.2 j hj
 have hat : roomAt m.rooms j = m.rooms[j] := by unfold roomAt; simp [List.getD, hj]
 rw [hat, e] at this
 exact this
theorem kEnd_all {qs : List (RoomV × Value)} (hl : qs.length ≤ 1048576) (hp : ∀ q ∈ qs, q.1.2.length ≤ 1048576) (k : Int) : k ≤ kEnd k qs ∧ kEnd k qs ≤ k + 2199024304128 := by
 have := kEnd_bd hp k qs.length (Nat.le_refl _)
 rw [List.take_length] at this
 omega
theorem OwnHall.keep {n₀ : Nat} {w w' : World} {u v : Value} {qs : List (RoomV × Value)} (h : OwnHall n₀ w v qs) (hg : w.grownBy w' u.ownBlock) (ho : OffHall u v qs) : OwnHall n₀ w' v qs :=
 ⟨own_same h.row fun k e => hg.block k (h.lt (.inl e)).2 (fun e' => ho.1 k e'.symm e), fun q hq => own_same (h.paces q hq) fun k e => hg.block k (h.lt (.inr ⟨q, hq, e⟩)).2 (fun e' => ho.2 q hq k e'.symm e), h.off, h.apart⟩
theorem markSmithy_any {n₀ : Nat} {w : World} {v0 v1 v2 v3 v4 : Value} {m : SmyV} {qs : List (RoomV × Value)} (k : Int) (h : FullSmy n₀ w v0 v1 v2 v3 v4 m qs) (hs : SmySmall m) (hn : n₀ ≤ w.heap.size) (hk0 : 0 ≤ k) (hk1 : k ≤ 1000000000) :
  Calls Tryz.prog 32 #[.agg #[v0, v1, v2, v3, v4, .int .i64 m.now], .int .i64 k] w fun e w' => e = .returned (.int .i64 (endM k m qs)) ∧ FullSmy n₀ w' v0 v1 v2 v3 v4 (markM k m qs) (markQ k qs) ∧ SmyOnly v0 v1 v2 v3 v4 qs w w' := by
 obtain ⟨sq, sp⟩ := small_qs hs.rooms h.rooms
 obtain ⟨e0, e1⟩ := kEnd_all sq sp k
 have Sp := hide sp
 obtain ⟨_, s1, s2, s3, s4⟩ := hs
 have hql : qs.length = m.rooms.length := by rw [← h.rooms, List.length_map]
 have Hf := hide h
 have Ha := hide (h.below ((Below.refl _ _).alloc (Nat.le_refl _) (.cells #[v0, v1, v2, v3, v4, .int .i64 m.now] 32)))
 obtain ⟨a0, p0, rfl⟩ := h.hall.shape
 obtain ⟨a1, p1, rfl⟩ := RecAt.shape h.guilds
 obtain ⟨a2, p2, rfl⟩ := RecAt.shape h.smiths
 obtain ⟨a3, p3, rfl⟩ := RecAt.shape h.desks
 obtain ⟨a4, p4, rfl⟩ := RecAt.shape h.paces
 rw [hql] at *
 clear h sp hql
 unfold endM
 generalize hke : kEnd k qs = ke at *
 have Hke := hide hke
 clear hke
 go_enter Tryz.func32, Tryz.ntmps32
 go_wp2_with fail
 have kb : Hid (Blk (w.alloc (.cells #[.slice a0 m.rooms.length p0, .slice a1 m.guilds.length p1, .slice a2 m.smiths.length p2, .slice a3 m.desks.length p3, .slice a4 m.paces.length p4, .int .i64 m.now] 32)) w.heap.size 32 #[.slice a0 m.rooms.length p0, .slice a1 m.guilds.length p1, .slice a2 m.smiths.length p2, .slice a3 m.desks.length p3, .slice a4 m.paces.length p4, .int .i64 m.now]) := hide (Blk.new w _ _)
 have OO : Hid (SmyOnly (.slice a0 m.rooms.length p0) (.slice a1 m.guilds.length p1) (.slice a2 m.smiths.length p2) (.slice a3 m.desks.length p3) (.slice a4 m.paces.length p4) qs w (w.alloc (.cells #[.slice a0 m.rooms.length p0, .slice a1 m.guilds.length p1, .slice a2 m.smiths.length p2, .slice a3 m.desks.length p3, .slice a4 m.paces.length p4, .int .i64 m.now] 32))) := hide ⟨rfl, rfl, rfl, by simp, fun k hk _ _ _ _ _ _ => Below.heap_alloc w _ k hk⟩
 have Ln : Hid (∀ b, ((Value.slice a0 m.rooms.length p0).ownBlock = some b ∨ ∃ q ∈ qs, q.2.ownBlock = some b) → b < w.heap.size) := hide (fun b e => ((uh Hf).hall.lt e).2)
 have L1 : Hid (∀ b, (Value.slice a1 m.guilds.length p1).ownBlock = some b → b < w.heap.size) := hide (fun b e => (RecAt.lt (uh Hf).guilds e).2)
 have L2 : Hid (∀ b, (Value.slice a2 m.smiths.length p2).ownBlock = some b → b < w.heap.size) := hide (fun b e => (RecAt.lt (uh Hf).smiths e).2)
 have L3 : Hid (∀ b, (Value.slice a3 m.desks.length p3).ownBlock = some b → b < w.heap.size) := hide (fun b e => (RecAt.lt (uh Hf).desks e).2)
 have L4 : Hid (∀ b, (Value.slice a4 m.paces.length p4).ownBlock = some b → b < w.heap.size) := hide (fun b e => (RecAt.lt (uh Hf).paces e).2)
 have n0 := hide (uh Ha).hall
 have n1 := hide (uh Ha).guilds
 have n2 := hide (uh Ha).smiths
 have n3 := hide (uh Ha).desks
 have n4 := hide (uh Ha).paces
 have hsz : w.heap.size < (w.alloc (.cells #[.slice a0 m.rooms.length p0, .slice a1 m.guilds.length p1, .slice a2 m.smiths.length p2, .slice a3 m.desks.length p3, .slice a4 m.paces.length p4, .int .i64 m.now] 32)).heap.size := (uh kb).lt
 clear Ha
 generalize w.alloc (.cells #[.slice a0 m.rooms.length p0, .slice a1 m.guilds.length p1, .slice a2 m.smiths.length p2, .slice a3 m.desks.length p3, .slice a4 m.paces.length p4, .int .i64 m.now] 32) = W at *
 refine (markHall_any k (uh n0) (by omega) hk0 hk1 (by omega) (uh Sp)).mono ?_
 rintro e w1 ⟨rfl, ho, hb⟩
 rw [uh Hke]
 replace n0 := hide ho
 replace n1 := hide (RecAt.same (uh n1) fun b e => hb.block b (RecAt.lt (uh n1) e).2 ((uh Hf).h1.1 b e) (fun q hq => (uh Hf).h1.2 q hq b e))
 replace n2 := hide (RecAt.same (uh n2) fun b e => hb.block b (RecAt.lt (uh n2) e).2 ((uh Hf).h2.1 b e) (fun q hq => (uh Hf).h2.2 q hq b e))
 replace n3 := hide (RecAt.same (uh n3) fun b e => hb.block b (RecAt.lt (uh n3) e).2 ((uh Hf).h3.1 b e) (fun q hq => (uh Hf).h3.2 q hq b e))
 replace n4 := hide (RecAt.same (uh n4) fun b e => hb.block b (RecAt.lt (uh n4) e).2 ((uh Hf).h4.1 b e) (fun q hq => (uh Hf).h4.2 q hq b e))
 replace kb := hide ((uh kb).same (hb.block w.heap.size hsz (fun e => by have := uh Ln _ (.inl e); omega) (fun q hq e => by have := uh Ln _ (.inr ⟨q, hq, e⟩); omega)))
 replace OO := hide (⟨hb.os.trans (uh OO).os, hb.tape.trans (uh OO).tape, hb.output.trans (uh OO).output, Nat.le_trans (uh OO).size hb.size, fun k hk h0 hq h1 h2 h3 h4 => (hb.block k (Nat.lt_of_lt_of_le hk (uh OO).size) h0 hq).trans ((uh OO).block k hk h0 hq h1 h2 h3 h4)⟩ : SmyOnly _ _ _ _ _ qs w w1)
 replace hsz : w.heap.size < w1.heap.size := Nat.lt_of_lt_of_le hsz hb.size
 clear ho hb
 have c1 := (uh kb).cell (i := 1) (v := .slice a1 m.guilds.length p1) rfl
 go_wp2_with fail
 clear c1
 refine (markGuildS_any (ke) (uh n1) (by omega) (by omega) (by omega)).mono ?_
 rintro e w2 ⟨rfl, ho, hg⟩
 have hlt1 := fun b e => uh L1 b e
 replace n0 := hide (OwnHall.keep (uh n0) hg ((uh Hf).h1.marked k))
 replace n2 := hide (RecAt.grown (uh n2) hg (fun b e => fun e2 => ((uh Hf).a12).symm b e e2))
 replace n3 := hide (RecAt.grown (uh n3) hg (fun b e => fun e2 => ((uh Hf).a13).symm b e e2))
 replace n4 := hide (RecAt.grown (uh n4) hg (fun b e => fun e2 => ((uh Hf).a14).symm b e e2))
 replace n1 := hide ho
 replace kb := hide ((uh kb).same (hg.block w.heap.size hsz (fun e => by have := hlt1 _ e.symm; omega)))
 replace OO := hide (⟨hg.os.trans (uh OO).os, hg.tape.trans (uh OO).tape, hg.output.trans (uh OO).output, Nat.le_trans (uh OO).size hg.size, fun k hk h0 hq h1 h2 h3 h4 => (hg.block k (Nat.lt_of_lt_of_le hk (uh OO).size) (fun e => h1 e.symm)).trans ((uh OO).block k hk h0 hq h1 h2 h3 h4)⟩ : SmyOnly _ _ _ _ _ qs w w2)
 replace hsz : w.heap.size < w2.heap.size := Nat.lt_of_lt_of_le hsz hg.size
 clear ho hg hlt1
 have c2 := (uh kb).cell (i := 2) (v := .slice a2 m.smiths.length p2) rfl
 go_wp2_with fail
 clear c2
 refine (markSmithS_any (ke + 3 * (m.guilds.length : Int)) (uh n2) (by omega) (by omega) (by omega)).mono ?_
 rintro e w3 ⟨rfl, ho, hg⟩
 have hlt2 := fun b e => uh L2 b e
 replace n0 := hide (OwnHall.keep (uh n0) hg ((uh Hf).h2.marked k))
 replace n1 := hide (RecAt.grown (uh n1) hg (fun b e => fun e2 => (uh Hf).a12 b e e2))
 replace n3 := hide (RecAt.grown (uh n3) hg (fun b e => fun e2 => ((uh Hf).a23).symm b e e2))
 replace n4 := hide (RecAt.grown (uh n4) hg (fun b e => fun e2 => ((uh Hf).a24).symm b e e2))
 replace n2 := hide ho
 replace kb := hide ((uh kb).same (hg.block w.heap.size hsz (fun e => by have := hlt2 _ e.symm; omega)))
 replace OO := hide (⟨hg.os.trans (uh OO).os, hg.tape.trans (uh OO).tape, hg.output.trans (uh OO).output, Nat.le_trans (uh OO).size hg.size, fun k hk h0 hq h1 h2 h3 h4 => (hg.block k (Nat.lt_of_lt_of_le hk (uh OO).size) (fun e => h2 e.symm)).trans ((uh OO).block k hk h0 hq h1 h2 h3 h4)⟩ : SmyOnly _ _ _ _ _ qs w w3)
 replace hsz : w.heap.size < w3.heap.size := Nat.lt_of_lt_of_le hsz hg.size
 clear ho hg hlt2
 have c3 := (uh kb).cell (i := 3) (v := .slice a3 m.desks.length p3) rfl
 go_wp2_with fail
 clear c3
 refine (markDeskS_any (ke + 3 * (m.guilds.length : Int) + 11 * (m.smiths.length : Int)) (uh n3) (by omega) (by omega) (by omega)).mono ?_
 rintro e w4 ⟨rfl, ho, hg⟩
 have hlt3 := fun b e => uh L3 b e
 replace n0 := hide (OwnHall.keep (uh n0) hg ((uh Hf).h3.marked k))
 replace n1 := hide (RecAt.grown (uh n1) hg (fun b e => fun e2 => (uh Hf).a13 b e e2))
 replace n2 := hide (RecAt.grown (uh n2) hg (fun b e => fun e2 => (uh Hf).a23 b e e2))
 replace n4 := hide (RecAt.grown (uh n4) hg (fun b e => fun e2 => ((uh Hf).a34).symm b e e2))
 replace n3 := hide ho
 replace kb := hide ((uh kb).same (hg.block w.heap.size hsz (fun e => by have := hlt3 _ e.symm; omega)))
 replace OO := hide (⟨hg.os.trans (uh OO).os, hg.tape.trans (uh OO).tape, hg.output.trans (uh OO).output, Nat.le_trans (uh OO).size hg.size, fun k hk h0 hq h1 h2 h3 h4 => (hg.block k (Nat.lt_of_lt_of_le hk (uh OO).size) (fun e => h3 e.symm)).trans ((uh OO).block k hk h0 hq h1 h2 h3 h4)⟩ : SmyOnly _ _ _ _ _ qs w w4)
 replace hsz : w.heap.size < w4.heap.size := Nat.lt_of_lt_of_le hsz hg.size
 clear ho hg hlt3
 have c4 := (uh kb).cell (i := 4) (v := .slice a4 m.paces.length p4) rfl
 go_wp2_with fail
 clear c4
 refine (markNums_any (ke + 3 * (m.guilds.length : Int) + 11 * (m.smiths.length : Int) + 3 * (m.desks.length : Int)) (uh n4) (by omega) (by omega) (by omega)).mono ?_
 rintro e w5 ⟨rfl, ho, hg⟩
 have hlt4 := fun b e => uh L4 b e
 replace n0 := hide (OwnHall.keep (uh n0) hg ((uh Hf).h4.marked k))
 replace n1 := hide (RecAt.grown (uh n1) hg (fun b e => fun e2 => (uh Hf).a14 b e e2))
 replace n2 := hide (RecAt.grown (uh n2) hg (fun b e => fun e2 => (uh Hf).a24 b e e2))
 replace n3 := hide (RecAt.grown (uh n3) hg (fun b e => fun e2 => (uh Hf).a34 b e e2))
 replace n4 := hide ho
 replace kb := hide ((uh kb).same (hg.block w.heap.size hsz (fun e => by have := hlt4 _ e.symm; omega)))
 replace OO := hide (⟨hg.os.trans (uh OO).os, hg.tape.trans (uh OO).tape, hg.output.trans (uh OO).output, Nat.le_trans (uh OO).size hg.size, fun k hk h0 hq h1 h2 h3 h4 => (hg.block k (Nat.lt_of_lt_of_le hk (uh OO).size) (fun e => h4 e.symm)).trans ((uh OO).block k hk h0 hq h1 h2 h3 h4)⟩ : SmyOnly _ _ _ _ _ qs w w5)
 replace hsz : w.heap.size < w5.heap.size := Nat.lt_of_lt_of_le hsz hg.size
 clear ho hg hlt4
 go_wp2_with fail
 go_ret
 refine ⟨rfl, ⟨uh n0, rfl, ?_, ?_, ?_, ?_, (uh Hf).h1.marked k, (uh Hf).h2.marked k, (uh Hf).h3.marked k, (uh Hf).h4.marked k, (uh Hf).a12, (uh Hf).a13, (uh Hf).a14, (uh Hf).a23, (uh Hf).a24, (uh Hf).a34⟩, uh OO⟩
 ·show RecAt _ _ _ _ _ _ (markM k m qs).guilds
  unfold markM
  rw [uh Hke]
  exact uh n1
 ·show RecAt _ _ _ _ _ _ (markM k m qs).smiths
  unfold markM
  rw [uh Hke]
  exact uh n2
 ·show RecAt _ _ _ _ _ _ (markM k m qs).desks
  unfold markM
  rw [uh Hke]
  exact uh n3
 ·show RecAt _ _ _ _ _ _ (markM k m qs).paces
  unfold markM
  rw [uh Hke]
  exact uh n4
theorem heldSmithy_yes {n₀ : Nat} {w : World} {v0 v1 v2 v3 v4 : Value} {m : SmyV} {qs : List (RoomV × Value)} (k : Int) (h : FullSmy n₀ w v0 v1 v2 v3 v4 (markM k m qs) (markQ k qs)) (hr : Small m.rooms) (hm : qs.map (·.1) = m.rooms) (hs : SmySmall m) (hk0 : 0 ≤ k) (hk1 : k ≤ 1000000000) :
  Calls Tryz.prog 33 #[.agg #[v0, v1, v2, v3, v4, .int .i64 m.now], .int .i64 k] w fun e w' => e = .returned (.int .i64 (endM k m qs)) ∧ Below w.heap.size w w' := by
 obtain ⟨sq, sp⟩ := small_qs hr hm
 obtain ⟨e0, e1⟩ := kEnd_all sq sp k
 have Sp := hide sp
 obtain ⟨_, s1, s2, s3, s4⟩ := hs
 have Hf := hide h
 obtain ⟨a0, p0, rfl⟩ := h.hall.shape
 obtain ⟨a1, p1, rfl⟩ := RecAt.shape h.guilds
 obtain ⟨a2, p2, rfl⟩ := RecAt.shape h.smiths
 obtain ⟨a3, p3, rfl⟩ := RecAt.shape h.desks
 obtain ⟨a4, p4, rfl⟩ := RecAt.shape h.paces
 have l0 : (markQ k qs).length = m.rooms.length := by rw [markQ_len, ← hm, List.length_map]
 have l1 : (markM k m qs).guilds.length = m.guilds.length := markL_len _ _ _ _
 have l2 : (markM k m qs).smiths.length = m.smiths.length := markL_len _ _ _ _
 have l3 : (markM k m qs).desks.length = m.desks.length := markL_len _ _ _ _
 have l4 : (markM k m qs).paces.length = m.paces.length := marks_len _ _
 rw [l0, l1, l2, l3, l4] at Hf ⊢
 clear h sp l0 l1 l2 l3 l4
 unfold endM
 have G1 : Hid (∀ w', Below w.heap.size w w' → IsGuilds w' (.slice a1 m.guilds.length p1) (markL mkGuild 3 (kEnd k qs) m.guilds.length)) := hide fun w' hb => GuildsAt.list (RecAt.later (uh Hf).guilds hb)
 have G2 : Hid (∀ w', Below w.heap.size w w' → IsSmiths w' (.slice a2 m.smiths.length p2) (markL mkSmith 11 (kEnd k qs + 3 * (m.guilds.length : Int)) m.smiths.length)) := hide fun w' hb => SmithsAt.list (RecAt.later (uh Hf).smiths hb)
 have G3 : Hid (∀ w', Below w.heap.size w w' → IsDesks w' (.slice a3 m.desks.length p3) (markL mkDesk 3 (kEnd k qs + 3 * (m.guilds.length : Int) + 11 * (m.smiths.length : Int)) m.desks.length)) := hide fun w' hb => DesksAt.list (RecAt.later (uh Hf).desks hb)
 have G4 : Hid (∀ w', Below w.heap.size w w' → NumsAt n₀ w' (.slice a4 m.paces.length p4) (marks (kEnd k qs + 3 * (m.guilds.length : Int) + 11 * (m.smiths.length : Int) + 3 * (m.desks.length : Int)) m.paces.length)) := hide fun w' hb => RecAt.later (uh Hf).paces hb
 have G0 : Hid (∀ w', Below w.heap.size w w' → IsRooms w' (.slice a0 m.rooms.length p0) ((markQ k qs).map (·.1))) := hide fun w' hb => ((uh Hf).hall.later hb).rooms
 have HH := hide (fun (w' : World) (h9 : IsRooms w' (.slice a0 m.rooms.length p0) ((markQ k qs).map (·.1))) => heldHall_yes k h9 hk0 hk1 sq (uh Sp))
 generalize kEnd k qs = ke at *
 go_enter Tryz.func33, Tryz.ntmps33
 go_wp2_with fail
 obtain ⟨W, hW, BB, kb⟩ := one_boxH w 32 (S6 a0 p0 a1 p1 a2 p2 a3 p3 a4 p4 m)
 rw [hW]
 (try rw [hW] at Hv);clear hW
 refine (uh HH _ (uh G0 _ (uh BB))).mono ?_
 rintro e w1 ⟨rfl, hb⟩
 replace kb := bl kb hb
 replace BB := bt BB hb
 clear hb
 have c1 := (uh kb).cell (i := 1) (v := .slice a1 m.guilds.length p1) rfl
 go_wp2_with fail
 clear c1
 refine (heldGuildS_yes (ke) _ (uh G1 _ (uh BB)) (by omega) (by omega) (by omega)).mono ?_
 rintro e w' ⟨rfl, h9⟩
 subst w'
 have c2 := (uh kb).cell (i := 2) (v := .slice a2 m.smiths.length p2) rfl
 go_wp2_with fail
 clear c2
 refine (heldSmithS_yes (ke + 3 * (m.guilds.length : Int)) _ (uh G2 _ (uh BB)) (by omega) (by omega) (by omega)).mono ?_
 rintro e w' ⟨rfl, h9⟩
 subst w'
 have c3 := (uh kb).cell (i := 3) (v := .slice a3 m.desks.length p3) rfl
 go_wp2_with fail
 clear c3
 refine (heldDeskS_yes (ke + 3 * (m.guilds.length : Int) + 11 * (m.smiths.length : Int)) _ (uh G3 _ (uh BB)) (by omega) (by omega) (by omega)).mono ?_
 rintro e w' ⟨rfl, h9⟩
 subst w'
 have c4 := (uh kb).cell (i := 4) (v := .slice a4 m.paces.length p4) rfl
 go_wp2_with fail
 clear c4
 refine (heldNums_yes (ke + 3 * (m.guilds.length : Int) + 11 * (m.smiths.length : Int) + 3 * (m.desks.length : Int)) _ (uh G4 _ (uh BB)) (by omega) (by omega) (by omega)).mono ?_
 rintro e w' ⟨rfl, h9⟩
 subst w'
 go_wp2_with fail
 go_ret
 exact ⟨rfl, uh BB⟩
def OwnB (v0 v1 v2 v3 v4 : Value) (qs : List (RoomV × Value)) (k : Nat) : Prop := v0.ownBlock = some k ∨ (∃ q ∈ qs, q.2.ownBlock = some k) ∨ v1.ownBlock = some k ∨ v2.ownBlock = some k ∨ v3.ownBlock = some k ∨ v4.ownBlock = some k
section
variable {n₀ : Nat} {w w' : World} {v0 v1 v2 v3 v4 : Value} {m : SmyV} {qs : List (RoomV × Value)}
theorem FullSmy.own (h : FullSmy n₀ w v0 v1 v2 v3 v4 m qs) {k : Nat} (e : OwnB v0 v1 v2 v3 v4 qs k) : n₀ ≤ k ∧ k < w.heap.size := by
 rcases e with e | e | e | e | e | e
 ·exact h.hall.lt (.inl e)
 ·exact h.hall.lt (.inr e)
 ·exact RecAt.lt h.guilds e
 ·exact RecAt.lt h.smiths e
 ·exact RecAt.lt h.desks e
 ·exact RecAt.lt h.paces e
theorem FullSmy.keep (h : FullSmy n₀ w v0 v1 v2 v3 v4 m qs) (hs : ∀ k, OwnB v0 v1 v2 v3 v4 qs k → w'.heap[k]? = w.heap[k]?) : FullSmy n₀ w' v0 v1 v2 v3 v4 m qs :=
 ⟨⟨own_same h.hall.row (fun k e => hs k (.inl e)), fun q hq => own_same (h.hall.paces q hq) (fun k e => hs k (.inr (.inl ⟨q, hq, e⟩))), h.hall.off, h.hall.apart⟩, h.rooms, RecAt.same h.guilds fun k e => hs k (.inr (.inr (.inl e))), RecAt.same h.smiths fun k e => hs k (.inr (.inr (.inr (.inl e)))), RecAt.same h.desks fun k e => hs k (.inr (.inr (.inr (.inr (.inl e))))), RecAt.same h.paces fun k e => hs k (.inr (.inr (.inr (.inr (.inr e))))), h.h1, h.h2, h.h3, h.h4, h.a12, h.a13, h.a14, h.a23, h.a24, h.a34⟩
end
end Go.Proofs.YthbbahagpmdooaaGreatDoor
namespace Go.Proofs.YthbbahagpmdooaaGreatDoor
open Go.ChangeShapes Go.WideShapes Go.ChangeAt Go.RowKit Go.Sort
set_option linter.unusedVariables false
section
variable {w w' : World}
theorem SmyOnly.at {u0 u1 u2 u3 u4 : Value} {rs : List (RoomV × Value)} (h : SmyOnly u0 u1 u2 u3 u4 rs w w') {k : Nat} (hk : k < w.heap.size) (hn : ¬ OwnB u0 u1 u2 u3 u4 rs k) : w'.heap[k]? = w.heap[k]? :=
 h.block k hk (fun e => hn (.inl e)) (fun q hq e => hn (.inr (.inl ⟨q, hq, e⟩))) (fun e => hn (.inr (.inr (.inl e)))) (fun e => hn (.inr (.inr (.inr (.inl e))))) (fun e => hn (.inr (.inr (.inr (.inr (.inl e)))))) (fun e => hn (.inr (.inr (.inr (.inr (.inr e))))))
theorem SmyOnly.below {u0 u1 u2 u3 u4 : Value} {rs : List (RoomV × Value)} {B : Nat} (h : SmyOnly u0 u1 u2 u3 u4 rs w w') (hB : B ≤ w.heap.size) (ho : ∀ k, OwnB u0 u1 u2 u3 u4 rs k → B ≤ k) : Below B w w' :=
 ⟨h.os, h.tape, h.output, h.size, fun k hk => h.at (by omega) (fun e => by have := ho k e; omega)⟩
end
theorem endM_bd {m : SmyV} {qs : List (RoomV × Value)} (hs : SmySmall m) (hm : qs.map (·.1) = m.rooms) : 1 ≤ endM 1 m qs ∧ endM 1 m qs ≤ 10000000000000 := by
 obtain ⟨sq, sp⟩ := small_qs hs.rooms hm
 obtain ⟨e0, e1⟩ := kEnd_all sq sp 1
 obtain ⟨_, s1, s2, s3, s4⟩ := hs
 unfold endM
 omega
end Go.Proofs.YthbbahagpmdooaaGreatDoor
namespace Go.Proofs.YthbbahagpmdooaaGreatDoor
open Go.ChangeShapes Go.WideShapes Go.ChangeAt Go.RowKit
set_option linter.unusedVariables false
set_option linter.unusedSimpArgs false
abbrev sent (a : Addr) : Value := .iface 331 (.pointer (some a))
abbrev refu (b : Nat) : Value := .iface 112 (.pointer (some ⟨b, 0, none⟩))
abbrev rty (t : Nat) : Value := .iface 221 (.agg #[.pointer (some ⟨5, t, none⟩)])
theorem tyE (v : Value) (w : World) : (callFunc 209 #[.iface 331 v]).run Tryz.prog w = .ok (.value (rty 331)) w := by
 rw [@run_callFunc_extern Tryz.prog 209 _ Extern.ReflectliteType.typeOf Tryz.func209 (by kernel_rfl) (by kernel_rfl) (by kernel_rfl) (by kernel_rfl)]
 kernel_rfl
theorem tyR (v : Value) (w : World) : (callFunc 209 #[.iface 112 v]).run Tryz.prog w = .ok (.value (rty 112)) w := by
 rw [@run_callFunc_extern Tryz.prog 209 _ Extern.ReflectliteType.typeOf Tryz.func209 (by kernel_rfl) (by kernel_rfl) (by kernel_rfl) (by kernel_rfl)]
 kernel_rfl
theorem mCmp (v : Value) (w : World) : (method 471 221 v "Comparable").run Tryz.prog w = .ok (372, v) w := by kernel_rfl
theorem cmpE (w : World) : (callFunc 372 #[.agg #[.pointer (some ⟨5, 331, none⟩)]]).run Tryz.prog w = .ok (.value (.bool true)) w := by
 rw [@run_callFunc_extern Tryz.prog 372 _ (Extern.ReflectliteType.method fun t => do Extern.Rtype.noPackHeld "Comparable" t; pure (.bool (← typeInfo t).comparable)) Tryz.func372 (by kernel_rfl) (by kernel_rfl) (by kernel_rfl) (by kernel_rfl)]
 kernel_rfl
theorem isComp : (Tryz.prog.info? 331).map (·.comparable) = some true := by kernel_rfl
theorem isSize : (Tryz.prog.info? 358).map (·.size) = some 1 := by kernel_rfl
theorem noIsE (v : Value) (xT : TypeId) (w : World) : (Instr.typeAssert (.iface 331 v) xT 268 true).run Tryz.prog w = .ok (.tuple #[.nilIface, .bool false]) w := run_typeAssert_lacksB Tryz.underlying268 (by kernel_rfl) (by kernel_rfl) v xT w
theorem noUnwrapE (v : Value) (xT : TypeId) (w : World) : (Instr.typeAssert (.iface 331 v) xT 229 true).run Tryz.prog w = .ok (.tuple #[.nilIface, .bool false]) w := run_typeAssert_lacksB Tryz.underlying229 (by kernel_rfl) (by kernel_rfl) v xT w
theorem noUnwrapsE (v : Value) (xT : TypeId) (w : World) : (Instr.typeAssert (.iface 331 v) xT 231 true).run Tryz.prog w = .ok (.tuple #[.nilIface, .bool false]) w := run_typeAssert_lacksB Tryz.underlying231 (by kernel_rfl) (by kernel_rfl) v xT w
theorem noIsR (v : Value) (xT : TypeId) (w : World) : (Instr.typeAssert (.iface 112 v) xT 268 true).run Tryz.prog w = .ok (.tuple #[.nilIface, .bool false]) w := run_typeAssert_lacksB Tryz.underlying268 (by kernel_rfl) (by kernel_rfl) v xT w
theorem hasUnwrapR (v : Value) (xT : TypeId) (w : World) : (Instr.typeAssert (.iface 112 v) xT 229 true).run Tryz.prog w = .ok (.tuple #[.iface 112 v, .bool true]) w := run_typeAssert_hasB Tryz.underlying229 (by kernel_rfl) v xT w
theorem mUnwrap (v : Value) (w : World) : (method 471 112 v "Unwrap").run Tryz.prog w = .ok (360, v) w := by kernel_rfl
theorem is_other {a b : Addr} {ca cb : Array Value} {ta tb : TypeId} (w : World) (hne : a ≠ b) (ha : w.heap[a.block]? = some (.cells ca ta (0, 0))) (hb : w.heap[b.block]? = some (.cells cb tb (0, 0))) : Calls Tryz.prog 158 #[sent a, sent b] w fun e w' => e = .returned (.bool false) ∧ w' = w := by
 obtain ⟨i, hi, hcmp⟩ := Option.map_eq_some_iff.1 isComp
 obtain ⟨j, hj, hjs⟩ := Option.map_eq_some_iff.1 isSize
 have tT := tyE
 have cT := cmpE
 have mR := mCmp
 have nE := noIsE
 have uE := noUnwrapE
 have vE := noUnwrapsE
 have heq := run_eql_iface_ptr_other (P := Tryz.prog) w Tryz.underlying69 Tryz.underlying331 hi hcmp hj (by rw [hjs]; decide) hne ha hb
 go_enter Tryz.func158, Tryz.ntmps158
 go_wp2
 refine wp_loop_rounds 1 ?_
 rw [rounds_succ]
 go_wp2
 go_ret
 exact ⟨rfl, rfl⟩
theorem is_wrap_same (pb : Nat) (b : Addr) (w : World) (h1 : w.cell? ⟨pb, 6, none⟩ = some (sent b)) : Calls Tryz.prog 158 #[refu pb, sent b] w fun e w' => e = .returned (.bool true) ∧ w' = w := by
 obtain ⟨i, hi, hcmp⟩ := Option.map_eq_some_iff.1 isComp
 obtain ⟨j, hj, hjs⟩ := Option.map_eq_some_iff.1 isSize
 have tT := tyE
 have cT := cmpE
 have mR := mCmp
 have nW := noIsR
 have uW := hasUnwrapR
 have mU := mUnwrap
 have heq := run_eql_iface_ptr_same (P := Tryz.prog) w b Tryz.underlying69 Tryz.underlying331 hi hcmp hj
 have hty := run_eql_iface_types (P := Tryz.prog) 112 331 (.pointer (some ⟨pb, 0, none⟩)) (.pointer (some b)) Tryz.underlying69 (by decide) w
 go_enter Tryz.func158, Tryz.ntmps158
 go_wp2
 refine wp_loop_rounds 2 ?_
 rw [rounds_succ]
 go_wp2
 rw [rounds_succ]
 go_wp2
 go_ret
 exact ⟨rfl, rfl⟩
theorem is_wrap_other (pb : Nat) {a b : Addr} {ca cb : Array Value} {ta tb : TypeId} (w : World) (h1 : w.cell? ⟨pb, 6, none⟩ = some (sent a)) (hne : a ≠ b) (ha : w.heap[a.block]? = some (.cells ca ta (0, 0))) (hb : w.heap[b.block]? = some (.cells cb tb (0, 0))) : Calls Tryz.prog 158 #[refu pb, sent b] w fun e w' => e = .returned (.bool false) ∧ w' = w := by
 obtain ⟨i, hi, hcmp⟩ := Option.map_eq_some_iff.1 isComp
 obtain ⟨j, hj, hjs⟩ := Option.map_eq_some_iff.1 isSize
 have tT := tyE
 have cT := cmpE
 have mR := mCmp
 have nE := noIsE
 have uE := noUnwrapE
 have vE := noUnwrapsE
 have nW := noIsR
 have uW := hasUnwrapR
 have mU := mUnwrap
 have heq := run_eql_iface_ptr_other (P := Tryz.prog) w Tryz.underlying69 Tryz.underlying331 hi hcmp hj (by rw [hjs]; decide) hne ha hb
 have hty := run_eql_iface_types (P := Tryz.prog) 112 331 (.pointer (some ⟨pb, 0, none⟩)) (.pointer (some b)) Tryz.underlying69 (by decide) w
 go_enter Tryz.func158, Tryz.ntmps158
 go_wp2
 refine wp_loop_rounds 2 ?_
 rw [rounds_succ]
 go_wp2
 rw [rounds_succ]
 go_wp2
 go_ret
 exact ⟨rfl, rfl⟩
abbrev tgt (b : Nat) : Value := .iface 114 (.pointer (some ⟨b, 0, none⟩))
abbrev valP (b : Nat) : Value := .agg #[.pointer (some ⟨5, 114, none⟩), .pointer (some ⟨b, 0, none⟩), .int .u64 150]
abbrev valE (b : Nat) : Value := .agg #[.pointer (some ⟨5, 112, none⟩), .pointer (some ⟨b, 0, none⟩), .int .u64 406]
abbrev valR (b : Nat) : Value := .agg #[.pointer (some ⟨5, 112, none⟩), .pointer (some ⟨b, 0, none⟩), .int .u64 150]
open Extern.ReflectliteValue in
theorem vOfT (b : Nat) (w : World) : (callFunc 154 #[tgt b]).run Tryz.prog w = .ok (.value (valP w.heap.size)) (w.alloc (.cells #[.pointer (some ⟨b, 0, none⟩)] 114)) := by
 rw [@run_callFunc_extern Tryz.prog 154 _ (fun args => unpack (args.getD 0 (.tuple #[]))) Tryz.func154 (by kernel_rfl) (by kernel_rfl) (by kernel_rfl) (by kernel_rfl)]
 kernel_rfl
open Extern.ReflectliteValue in
theorem vOfR (b : Nat) (w : World) : (callFunc 154 #[refu b]).run Tryz.prog w = .ok (.value (valR w.heap.size)) (w.alloc (.cells #[.pointer (some ⟨b, 0, none⟩)] 112)) := by
 rw [@run_callFunc_extern Tryz.prog 154 _ (fun args => unpack (args.getD 0 (.tuple #[]))) Tryz.func154 (by kernel_rfl) (by kernel_rfl) (by kernel_rfl) (by kernel_rfl)]
 kernel_rfl
open Extern.ReflectliteValue in
theorem vType (b : Nat) (w : World) : (callFunc 155 #[valP b]).run Tryz.prog w = .ok (.value (rty 114)) w := by
 rw [@run_callFunc_extern Tryz.prog 155 _ (methodAny (valueError "reflectlite.Value.Type" 0) fun t _ _ _ => Extern.ReflectliteType.toType t) Tryz.func155 (by kernel_rfl) (by kernel_rfl) (by kernel_rfl) (by kernel_rfl)]
 kernel_rfl
theorem mKind (p : Value) (w : World) : (method 471 221 (.agg #[p]) "Kind").run Tryz.prog w = .ok (355, p) w := by kernel_rfl
theorem mElem (v : Value) (w : World) : (method 471 221 v "Elem").run Tryz.prog w = .ok (373, v) w := by kernel_rfl
theorem mImpl (v : Value) (w : World) : (method 471 221 v "Implements").run Tryz.prog w = .ok (374, v) w := by kernel_rfl
theorem mAssi (v : Value) (w : World) : (method 471 221 v "AssignableTo").run Tryz.prog w = .ok (371, v) w := by kernel_rfl
theorem kindP (w : World) : (callFunc 355 #[.pointer (some ⟨5, 114, none⟩)]).run Tryz.prog w = .ok (.value (.int .u8 22)) w := by
 rw [@run_callFunc_extern Tryz.prog 355 _ (Extern.ReflectliteType.abiMethod fun t => do pure (.int .u8 (← Extern.Rtype.kind t))) Tryz.func355 (by kernel_rfl) (by kernel_rfl) (by kernel_rfl) (by kernel_rfl)]
 kernel_rfl
theorem kindR (w : World) : (callFunc 355 #[.pointer (some ⟨5, 112, none⟩)]).run Tryz.prog w = .ok (.value (.int .u8 22)) w := by
 rw [@run_callFunc_extern Tryz.prog 355 _ (Extern.ReflectliteType.abiMethod fun t => do pure (.int .u8 (← Extern.Rtype.kind t))) Tryz.func355 (by kernel_rfl) (by kernel_rfl) (by kernel_rfl) (by kernel_rfl)]
 kernel_rfl
theorem elemP (w : World) : (callFunc 373 #[.agg #[.pointer (some ⟨5, 114, none⟩)]]).run Tryz.prog w = .ok (.value (rty 112)) w := by
 rw [@run_callFunc_extern Tryz.prog 373 _ (Extern.ReflectliteType.method Extern.ReflectliteType.elem) Tryz.func373 (by kernel_rfl) (by kernel_rfl) (by kernel_rfl) (by kernel_rfl)]
 kernel_rfl
theorem implR (w : World) : (callFunc 374 #[.agg #[.pointer (some ⟨5, 112, none⟩)], rty 69]).run Tryz.prog w = .ok (.value (.bool true)) w := by
 rw [@run_callFunc_extern Tryz.prog 374 _ (Extern.ReflectliteType.relation "Implements" Extern.ReflectliteType.implements_) Tryz.func374 (by kernel_rfl) (by kernel_rfl) (by kernel_rfl) (by kernel_rfl)]
 kernel_rfl
theorem assiE (w : World) : (callFunc 371 #[.agg #[.pointer (some ⟨5, 331, none⟩)], rty 112]).run Tryz.prog w = .ok (.value (.bool false)) w := by
 rw [@run_callFunc_extern Tryz.prog 371 _ (Extern.ReflectliteType.relation "AssignableTo" Extern.ReflectliteType.assignableTo) Tryz.func371 (by kernel_rfl) (by kernel_rfl) (by kernel_rfl) (by kernel_rfl)]
 kernel_rfl
theorem assiR (w : World) : (callFunc 371 #[.agg #[.pointer (some ⟨5, 112, none⟩)], rty 112]).run Tryz.prog w = .ok (.value (.bool true)) w := by
 rw [@run_callFunc_extern Tryz.prog 371 _ (Extern.ReflectliteType.relation "AssignableTo" Extern.ReflectliteType.assignableTo) Tryz.func371 (by kernel_rfl) (by kernel_rfl) (by kernel_rfl) (by kernel_rfl)]
 kernel_rfl
theorem noAsE (v : Value) (xT : TypeId) (w : World) : (Instr.typeAssert (.iface 331 v) xT 226 true).run Tryz.prog w = .ok (.tuple #[.nilIface, .bool false]) w := run_typeAssert_lacksB Tryz.underlying226 (by kernel_rfl) (by kernel_rfl) v xT w
open Extern.ReflectliteValue in
theorem vNil (b : Nat) (x : Addr) (w : World) (hc : w.cell? ⟨b, 0, none⟩ = some (.pointer (some x))) : (callFunc 156 #[valP b]).run Tryz.prog w = .ok (.value (.bool false)) w := by
 rw [@run_callFunc_extern Tryz.prog 156 _ (Extern.ReflectliteValue.method (valueError "reflectlite.Value.IsNil" 0) isNil) Tryz.func156 (by kernel_rfl) (by kernel_rfl) (by kernel_rfl) (by kernel_rfl)]
 have hp : (parts (valP b)).run Tryz.prog w = .ok (some (114, ⟨b, 0, none⟩, 150)) w := by kernel_rfl
 have ha : (isAgg 114).run Tryz.prog w = .ok false w := by kernel_rfl
 have hl : (loadVar 114 ⟨b, 0, none⟩).run Tryz.prog w = .ok (.pointer (some x)) w := by simp [loadVar, ha, run_load, hc]
 show ((do match ← parts (valP b) with | none => valueError "reflectlite.Value.IsNil" 0 | some (t, a, fl) => isNil t a fl (fl % 32) : Sem Value).run Tryz.prog w).andThen _ = _
 simp [hp, isNil, hl]
open Extern.ReflectliteValue in
theorem vElem (b r : Nat) (w : World) (hc : w.cell? ⟨b, 0, none⟩ = some (.pointer (some ⟨r, 0, none⟩))) : (callFunc 210 #[valP b]).run Tryz.prog w = .ok (.value (valE r)) w := by
 rw [@run_callFunc_extern Tryz.prog 210 _ (Extern.ReflectliteValue.method (valueError "reflectlite.Value.Elem" 0) elem) Tryz.func210 (by kernel_rfl) (by kernel_rfl) (by kernel_rfl) (by kernel_rfl)]
 have hp : (parts (valP b)).run Tryz.prog w = .ok (some (114, ⟨b, 0, none⟩, 150)) w := by kernel_rfl
 have ha : (isAgg 114).run Tryz.prog w = .ok false w := by kernel_rfl
 have hl : (loadVar 114 ⟨b, 0, none⟩).run Tryz.prog w = .ok (.pointer (some ⟨r, 0, none⟩)) w := by simp [loadVar, ha, run_load, hc]
 have he : (Extern.Rtype.elem? 114).run Tryz.prog w = .ok (some 112) w := by kernel_rfl
 have hm : (mk 112 ⟨r, 0, none⟩ flagAddr).run Tryz.prog w = .ok (valE r) w := by kernel_rfl
 show ((do match ← parts (valP b) with | none => valueError "reflectlite.Value.Elem" 0 | some (t, a, fl) => elem t a fl (fl % 32) : Sem Value).run Tryz.prog w).andThen _ = _
 simp [hp, elem, hl, he, hm]
open Extern.ReflectliteValue in
theorem vSet (b r p : Nat) (w : World) (hc : w.cell? ⟨b, 0, none⟩ = some (.pointer (some ⟨p, 0, none⟩))) (hr : w.cell? ⟨r, 0, none⟩ = some (.pointer none)) (hzr : w.frozen? ⟨r, 0, none⟩ = false) : (callFunc 211 #[valE r, valR b]).run Tryz.prog w = .ok (.value (.tuple #[])) (w.setCell ⟨r, 0, none⟩ (.pointer (some ⟨p, 0, none⟩))) := by
 rw [@run_callFunc_extern Tryz.prog 211 _ Extern.ReflectliteValue.set Tryz.func211 (by kernel_rfl) (by kernel_rfl) (by kernel_rfl) (by kernel_rfl)]
 have hp : (parts (valE r)).run Tryz.prog w = .ok (some (112, ⟨r, 0, none⟩, 406)) w := by kernel_rfl
 have hq : (parts (valR b)).run Tryz.prog w = .ok (some (112, ⟨b, 0, none⟩, 150)) w := by kernel_rfl
 have ha : (isAgg 112).run Tryz.prog w = .ok false w := by kernel_rfl
 have hl : (loadVar 112 ⟨b, 0, none⟩).run Tryz.prog w = .ok (.pointer (some ⟨p, 0, none⟩)) w := by simp [loadVar, ha, run_load, hc]
 have hd : (Extern.Rtype.directlyAssignable 112 112).run Tryz.prog w = .ok true w := by kernel_rfl
 have hs : (storeVar 112 ⟨r, 0, none⟩ (.pointer (some ⟨p, 0, none⟩))).run Tryz.prog w = .ok () (w.setCell ⟨r, 0, none⟩ (.pointer (some ⟨p, 0, none⟩))) := by
  have hz : (sizeOf 112).run Tryz.prog w = .ok 1 w := by kernel_rfl
  simp [storeVar, hz, storeCells, Value.cells]
  show (store ⟨r, 0, none⟩ (.pointer (some ⟨p, 0, none⟩))).run Tryz.prog w = _
  rw [run_store _ _ _ _ _ rfl, hr]
  simp [hzr]
 have h0 : (Extern.ReflectliteValue.set #[valE r, valR b]).run Tryz.prog w = .ok (.tuple #[]) (w.setCell ⟨r, 0, none⟩ (.pointer (some ⟨p, 0, none⟩))) := by
  unfold Extern.ReflectliteValue.set
  show Sem.run Tryz.prog (parts (valE r) >>= _) w = _
  rw [Sem.run_bind, hp]
  simp only [Result.andThen_ok]
  show Sem.run Tryz.prog (parts (valR b) >>= _) w = _
  rw [Sem.run_bind, hq]
  simp only [Result.andThen_ok]
  simp [hl, hd, hs, flagAddr]
 rw [h0]; rfl
theorem as_nil (v : Value) (w : World) : Calls Tryz.prog 98 #[.nilIface, v] w fun e w' => e = .returned (.bool false) ∧ w' = w := by
 go_enter Tryz.func98, Tryz.ntmps98
 go_wp2
 go_ret
 exact ⟨rfl, rfl⟩
abbrev asW (b : Nat) (w : World) : World := (w.alloc (.cells #[.pointer (some ⟨b, 0, none⟩)] 114)).alloc (.cells #[.pointer (some ⟨5, 114, none⟩), .pointer (some ⟨w.heap.size, 0, none⟩), .int .u64 150] 163)
theorem asW_cell (b : Nat) (w : World) : (asW b w).cell? ⟨w.heap.size, 0, none⟩ = some (.pointer (some ⟨b, 0, none⟩)) := by go_simp
theorem asW_below (b : Nat) (w : World) : Below w.heap.size w (asW b w) := ((Below.refl _ _).alloc (Nat.le_refl _) _).alloc (by simp) _
theorem as_no (a : Addr) (b : Nat) (w : World) (hT : w.cell? ⟨4, 0, none⟩ = some (rty 69)) : Calls Tryz.prog 98 #[sent a, tgt b] w fun e w' => e = .returned (.bool false) ∧ Below w.heap.size w w' := by
 have h1 := vOfT
 have h2 := vType
 have h3 := mKind
 have h4 := kindP
 have h5 := kindR
 have h6 := mElem
 have h7 := elemP
 have h8 := mImpl
 have h9 := implR
 have h10 := vNil w.heap.size ⟨b, 0, none⟩ (asW b w) (asW_cell b w)
 have hT2 : (asW b w).cell? ⟨4, 0, none⟩ = some (rty 69) := ((asW_below b w).cell (World.block_lt_of_cell? _ _ hT)).trans hT
 have t1 := tyE
 have t2 := mAssi
 have t3 := assiE
 have t4 := noAsE
 have uE := noUnwrapE
 have vE := noUnwrapsE
 go_enter Tryz.func98, Tryz.ntmps98
 go_wp2
 refine wp_loop_rounds 1 ?_
 rw [rounds_succ]
 go_wp2
 go_ret
 exact ⟨rfl, ((asW_below b w).alloc (by simp; omega) _)⟩
theorem below_set {n : Nat} {w W : World} {b : Nat} {v : Value} (h : Below n w W) (hn : n ≤ b) : Below n w (W.setCell ⟨b, 0, none⟩ v) := Below.setCell h hn v
abbrev asX (b : Nat) (w : World) : World := (asW b w).alloc (.cells #[.pointer (some ⟨5, 114, none⟩), .pointer (some ⟨w.heap.size, 0, none⟩), .int .u64 150] 163)
abbrev asY (b p : Nat) (w : World) : World := (asX b w).alloc (.cells #[.pointer (some ⟨p, 0, none⟩)] 112)
theorem asX_cell (b : Nat) (w : World) : (asX b w).cell? ⟨w.heap.size, 0, none⟩ = some (.pointer (some ⟨b, 0, none⟩)) := by go_simp
theorem asX_size (b : Nat) (w : World) : (asX b w).heap.size = w.heap.size + 1 + 1 + 1 := by simp
theorem asY_cell (b p : Nat) (w : World) : (asY b p w).cell? ⟨w.heap.size + 1 + 1 + 1, 0, none⟩ = some (.pointer (some ⟨p, 0, none⟩)) := by go_simp
theorem asY_below (b p : Nat) (w : World) : Below w.heap.size w (asY b p w) := ((asW_below b w).alloc (by simp; omega) _).alloc (by simp; omega) _
theorem as_yes (b p : Nat) (w : World) (hT : w.cell? ⟨4, 0, none⟩ = some (rty 69)) (hb : w.cell? ⟨b, 0, none⟩ = some (.pointer none)) (hz : w.frozen? ⟨b, 0, none⟩ = false) : Calls Tryz.prog 98 #[refu p, tgt b] w fun e w' => e = .returned (.bool true) ∧ w'.cell? ⟨b, 0, none⟩ = some (.pointer (some ⟨p, 0, none⟩)) ∧ ∀ n, n ≤ b → n ≤ w.heap.size → Below n w w' := by
 have h1 := vOfT
 have h2 := vType
 have h3 := mKind
 have h4 := kindP
 have h5 := kindR
 have h6 := mElem
 have h7 := elemP
 have h8 := mImpl
 have h9 := implR
 have h10 := vNil w.heap.size ⟨b, 0, none⟩ (asW b w) (asW_cell b w)
 have hT2 : (asW b w).cell? ⟨4, 0, none⟩ = some (rty 69) := ((asW_below b w).cell (World.block_lt_of_cell? _ _ hT)).trans hT
 have t1 := tyR
 have t2 := mAssi
 have t3 := assiR
 have k1 := vOfR p (asX b w)
 rw [asX_size] at k1
 have k2 := vElem w.heap.size b (asX b w) (asX_cell b w)
 have hlt := World.block_lt_of_cell? _ _ hb
 have hb2 : (asY b p w).cell? ⟨b, 0, none⟩ = some (.pointer none) := ((asY_below b p w).cell hlt).trans hb
 have hz2 : (asY b p w).frozen? ⟨b, 0, none⟩ = false := ((asY_below b p w).frozen hlt).trans hz
 have k3 := vSet (w.heap.size + 1 + 1 + 1) b p (asY b p w) (asY_cell b p w) hb2 hz2
 go_enter Tryz.func98, Tryz.ntmps98
 go_wp2
 refine wp_loop_rounds 1 ?_
 rw [rounds_succ]
 go_wp2
 go_ret
 exact ⟨rfl, World.cell?_setCell_same _ _ _ hb2, fun n hn hnw => below_set ((asY_below b p w).mono hnw) hn⟩
open Go.ChangeShapes Go.WideShapes Go.ChangeAt Go.RowKit Go.Sort
set_option maxRecDepth 100000
structure Errs (w : World) (q : Int → Addr) : Prop where
 c1 : w.cell? ⟨3, 0, none⟩ = some (sent (q 1))
 c2 : w.cell? ⟨2, 0, none⟩ = some (sent (q 2))
 c3 : w.cell? ⟨0, 0, none⟩ = some (sent (q 3))
 c4 : w.cell? ⟨1, 0, none⟩ = some (sent (q 4))
 ct : w.cell? ⟨4, 0, none⟩ = some (rty 69)
 b1 : ∃ c t, w.heap[(q 1).block]? = some (.cells c t (0, 0))
 b2 : ∃ c t, w.heap[(q 2).block]? = some (.cells c t (0, 0))
 b3 : ∃ c t, w.heap[(q 3).block]? = some (.cells c t (0, 0))
 b4 : ∃ c t, w.heap[(q 4).block]? = some (.cells c t (0, 0))
 n12 : q 1 ≠ q 2
 n13 : q 1 ≠ q 3
 n14 : q 1 ≠ q 4
 n23 : q 2 ≠ q 3
 n24 : q 2 ≠ q 4
 n34 : q 3 ≠ q 4
theorem blk_later {w w' : World} {k : Nat} (h : ∃ c t, w.heap[k]? = some (.cells c t (0, 0))) (hb : Below w.heap.size w w') : ∃ c t, w'.heap[k]? = some (.cells c t (0, 0)) := by
 obtain ⟨c, t, e⟩ := h
 exact ⟨c, t, (hb.block k (Array.getElem?_eq_some_iff.1 e).1).trans e⟩
theorem Errs.below {w w' : World} {q : Int → Addr} (h : Errs w q) (hb : Below w.heap.size w w') : Errs w' q :=
 ⟨(hb.cell (World.block_lt_of_cell? _ _ h.c1)).trans h.c1, (hb.cell (World.block_lt_of_cell? _ _ h.c2)).trans h.c2, (hb.cell (World.block_lt_of_cell? _ _ h.c3)).trans h.c3, (hb.cell (World.block_lt_of_cell? _ _ h.c4)).trans h.c4, (hb.cell (World.block_lt_of_cell? _ _ h.ct)).trans h.ct, blk_later h.b1 hb, blk_later h.b2 hb, blk_later h.b3 hb, blk_later h.b4 hb, h.n12, h.n13, h.n14, h.n23, h.n24, h.n34⟩
theorem codeOf_nil (w : World) : Calls Tryz.prog 99 #[.nilIface] w fun e w' => e = .returned (.int .i64 0) ∧ w' = w := by
 go_enter Tryz.func99, Tryz.ntmps99
 go_wp2_with fail
 go_ret
 exact ⟨rfl, rfl⟩
theorem codeOf_wrap1 (p : Nat) {w : World} {q : Int → Addr} (h : Errs w q) (hp : w.cell? ⟨p, 6, none⟩ = some (sent (q 1))) : Calls Tryz.prog 99 #[refu p] w fun e w' => e = .returned (.int .i64 1) ∧ w' = w := by
 have HE := hide h
 have Hp := hide hp
 clear hp
 obtain ⟨x1, x2, x3, x4, _⟩ := h
 go_enter Tryz.func99, Tryz.ntmps99
 go_wp2_with fail
 refine (is_wrap_same p (q 1) _ (uh Hp)).mono ?_
 rintro e w' ⟨rfl, h9⟩
 subst w'
 go_wp2_with fail
 go_ret
 exact ⟨rfl, rfl⟩
theorem codeOf_wrap2 (p : Nat) {w : World} {q : Int → Addr} (h : Errs w q) (hp : w.cell? ⟨p, 6, none⟩ = some (sent (q 2))) : Calls Tryz.prog 99 #[refu p] w fun e w' => e = .returned (.int .i64 2) ∧ w' = w := by
 have HE := hide h
 have Hp := hide hp
 clear hp
 obtain ⟨x1, x2, x3, x4, _⟩ := h
 go_enter Tryz.func99, Tryz.ntmps99
 go_wp2_with fail
 obtain ⟨ca, ta, ha⟩ := (uh HE).b2
 obtain ⟨cb, tb, hb⟩ := (uh HE).b1
 refine (is_wrap_other p _ (uh Hp) ((uh HE).n12.symm) ha hb).mono ?_
 clear ha hb
 rintro e w' ⟨rfl, h9⟩
 subst w'
 go_wp2_with fail
 refine (is_wrap_same p (q 2) _ (uh Hp)).mono ?_
 rintro e w' ⟨rfl, h9⟩
 subst w'
 go_wp2_with fail
 go_ret
 exact ⟨rfl, rfl⟩
theorem codeOf_wrap3 (p : Nat) {w : World} {q : Int → Addr} (h : Errs w q) (hp : w.cell? ⟨p, 6, none⟩ = some (sent (q 3))) : Calls Tryz.prog 99 #[refu p] w fun e w' => e = .returned (.int .i64 3) ∧ w' = w := by
 have HE := hide h
 have Hp := hide hp
 clear hp
 obtain ⟨x1, x2, x3, x4, _⟩ := h
 go_enter Tryz.func99, Tryz.ntmps99
 go_wp2_with fail
 obtain ⟨ca, ta, ha⟩ := (uh HE).b3
 obtain ⟨cb, tb, hb⟩ := (uh HE).b1
 refine (is_wrap_other p _ (uh Hp) ((uh HE).n13.symm) ha hb).mono ?_
 clear ha hb
 rintro e w' ⟨rfl, h9⟩
 subst w'
 go_wp2_with fail
 obtain ⟨ca, ta, ha⟩ := (uh HE).b3
 obtain ⟨cb, tb, hb⟩ := (uh HE).b2
 refine (is_wrap_other p _ (uh Hp) ((uh HE).n23.symm) ha hb).mono ?_
 clear ha hb
 rintro e w' ⟨rfl, h9⟩
 subst w'
 go_wp2_with fail
 obtain ⟨ca, ta, ha⟩ := (uh HE).b3
 obtain ⟨cb, tb, hb⟩ := (uh HE).b4
 refine (is_wrap_other p _ (uh Hp) ((uh HE).n34) ha hb).mono ?_
 clear ha hb
 rintro e w' ⟨rfl, h9⟩
 subst w'
 go_wp2_with fail
 go_ret
 exact ⟨rfl, rfl⟩
theorem codeOf_wrap4 (p : Nat) {w : World} {q : Int → Addr} (h : Errs w q) (hp : w.cell? ⟨p, 6, none⟩ = some (sent (q 4))) : Calls Tryz.prog 99 #[refu p] w fun e w' => e = .returned (.int .i64 4) ∧ w' = w := by
 have HE := hide h
 have Hp := hide hp
 clear hp
 obtain ⟨x1, x2, x3, x4, _⟩ := h
 go_enter Tryz.func99, Tryz.ntmps99
 go_wp2_with fail
 obtain ⟨ca, ta, ha⟩ := (uh HE).b4
 obtain ⟨cb, tb, hb⟩ := (uh HE).b1
 refine (is_wrap_other p _ (uh Hp) ((uh HE).n14.symm) ha hb).mono ?_
 clear ha hb
 rintro e w' ⟨rfl, h9⟩
 subst w'
 go_wp2_with fail
 obtain ⟨ca, ta, ha⟩ := (uh HE).b4
 obtain ⟨cb, tb, hb⟩ := (uh HE).b2
 refine (is_wrap_other p _ (uh Hp) ((uh HE).n24.symm) ha hb).mono ?_
 clear ha hb
 rintro e w' ⟨rfl, h9⟩
 subst w'
 go_wp2_with fail
 refine (is_wrap_same p (q 4) _ (uh Hp)).mono ?_
 rintro e w' ⟨rfl, h9⟩
 subst w'
 go_wp2_with fail
 go_ret
 exact ⟨rfl, rfl⟩
theorem codeOf_bare {w : World} {q : Int → Addr} (h : Errs w q) : Calls Tryz.prog 99 #[sent (q 3)] w fun e w' => e = .returned (.int .i64 3) ∧ w' = w := by
 have HE := hide h
 obtain ⟨x1, x2, x3, x4, _⟩ := h
 go_enter Tryz.func99, Tryz.ntmps99
 go_wp2_with fail
 obtain ⟨ca, ta, ha⟩ := (uh HE).b3
 obtain ⟨cb, tb, hb⟩ := (uh HE).b1
 refine (is_other _ ((uh HE).n13.symm) ha hb).mono ?_
 clear ha hb
 rintro e w' ⟨rfl, h9⟩
 subst w'
 go_wp2_with fail
 obtain ⟨ca, ta, ha⟩ := (uh HE).b3
 obtain ⟨cb, tb, hb⟩ := (uh HE).b2
 refine (is_other _ ((uh HE).n23.symm) ha hb).mono ?_
 clear ha hb
 rintro e w' ⟨rfl, h9⟩
 subst w'
 go_wp2_with fail
 obtain ⟨ca, ta, ha⟩ := (uh HE).b3
 obtain ⟨cb, tb, hb⟩ := (uh HE).b4
 refine (is_other _ ((uh HE).n34) ha hb).mono ?_
 clear ha hb
 rintro e w' ⟨rfl, h9⟩
 subst w'
 go_wp2_with fail
 go_ret
 exact ⟨rfl, rfl⟩
theorem codeOf_wrap {c : Int} (hc : c = 1 ∨ c = 2 ∨ c = 3 ∨ c = 4) (p : Nat) {w : World} {q : Int → Addr} (h : Errs w q) (hp : w.cell? ⟨p, 6, none⟩ = some (sent (q c))) : Calls Tryz.prog 99 #[refu p] w fun e w' => e = .returned (.int .i64 c) ∧ w' = w := by
 rcases hc with rfl | rfl | rfl | rfl
 ·exact codeOf_wrap1 p h hp
 ·exact codeOf_wrap2 p h hp
 ·exact codeOf_wrap3 p h hp
 ·exact codeOf_wrap4 p h hp
end Go.Proofs.YthbbahagpmdooaaGreatDoor
