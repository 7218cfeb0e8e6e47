/- What the proof rests on, part 18: lists and numbers, how they lie in memory, and contracts of the calls. No condition but those that a theorem names. -/
import Derived.Test.YtifolooecfebfaaGreatXe01
import Derived.Test.YtifolooecfebfaaGreatXe03
import Derived.Test.YtifolooecfebfaaGreatXe05
import Derived.Test.YtifolooecfebfaaGreatXe06
import Derived.Test.YtifolooecfebfaaGreatXe08
import Derived.Test.YtifolooecfebfaaGreatXe10
import Derived.Test.YtifolooecfebfaaGreatXe11
import Derived.Test.YtifolooecfebfaaGreatXe13
import GoSem.Claim
import GoSem.ClaimJoined
import GoSem.ClaimMapViews
import Derived.JoinedTies
import Derived.KernelRfl
import Derived.RowKit
import Derived.WalkKit
import Derived.ProofKit
import Derived.OpenShut
import Derived.Outline
import Derived.Lib.QuietBelow
import Derived.Deep.RegionWith
import Derived.Deep.QuietTactic
import Derived.BigQuiet
import Derived.Laws.OwnMore
import Derived.OwnWalk
import Derived.Maps.AppendAt
import Derived.Lib.SmallJoins
import Derived.Deep.Fields
import Derived.Deep.Slices
/- Contracts of the laws' own helpers that mark a smithy and ask whether it holds its marks: smithies that the call itself made, no two rows in one block. Conditions: those that each theorem names. -/
namespace Go.Proofs.YtifolooecfebfaaGreat
open Go.ChangeShapes Go.WideShapes Go.ChangeAt Go.RowKit Go.Sort
set_option linter.unusedVariables false

theorem markQ_vals : ∀ (qs : List (RoomV × Value)) (k : Int), (markQ k qs).map (·.2) = qs.map (·.2)
  | [], _ => rfl
  | q :: qs, k => by
    have := markQ_vals qs (k + 1 + 2 * (q.1.2.length : Int))
    simp only [markQ, List.map_cons]
    rw [this]
theorem markQ_mem {qs : List (RoomV × Value)} {k : Int} {q : RoomV × Value} (h : q ∈ markQ k qs) : ∃ q' ∈ qs, q'.2 = q.2 := by
  have : q.2 ∈ (markQ k qs).map (·.2) := List.mem_map.2 ⟨q, h, rfl⟩
  rw [markQ_vals] at this
  exact List.mem_map.1 this
theorem OffHall.marked {u v : Value} {qs : List (RoomV × Value)} (h : OffHall u v qs) (k : Int) : OffHall u v (markQ k qs) :=
  ⟨h.1, fun q hq => by obtain ⟨q', h1, h2⟩ := markQ_mem hq; rw [← h2]; exact h.2 q' h1⟩
/-- Only the smithy's own blocks differ. -/
structure SmyOnly (v0 v1 v2 v3 v4 : Value) (qs : List (RoomV × Value)) (w w' : World) : Prop where
  os : w'.os = w.os
  tape : w'.tape = w.tape
  output : w'.output = w.output
  size : w.heap.size ≤ w'.heap.size
  block : ∀ k, k < w.heap.size → v0.ownBlock ≠ some k → (∀ q ∈ qs, q.2.ownBlock ≠ some k) → v1.ownBlock ≠ some k → v2.ownBlock ≠ some k → v3.ownBlock ≠ some k → v4.ownBlock ≠ some k → w'.heap[k]? = w.heap[k]?
def markM (k : Int) (m : SmyV) (qs : List (RoomV × Value)) : SmyV :=
  { rooms := (markQ k qs).map (·.1), guilds := markL mkGuild 3 (kEnd k qs) m.guilds.length, smiths := markL mkSmith 11 (kEnd k qs + 3 * (m.guilds.length : Int)) m.smiths.length, desks := markL mkDesk 3 (kEnd k qs + 3 * (m.guilds.length : Int) + 11 * (m.smiths.length : Int)) m.desks.length, paces := marks (kEnd k qs + 3 * (m.guilds.length : Int) + 11 * (m.smiths.length : Int) + 3 * (m.desks.length : Int)) m.paces.length, now := m.now }
def endM (k : Int) (m : SmyV) (qs : List (RoomV × Value)) : Int := kEnd k qs + 3 * (m.guilds.length : Int) + 11 * (m.smiths.length : Int) + 3 * (m.desks.length : Int) + (m.paces.length : Int)
theorem small_qs {m : SmyV} {qs : List (RoomV × Value)} (hs : Small m.rooms) (hm : qs.map (·.1) = m.rooms) : qs.length ≤ 1048576 ∧ ∀ q ∈ qs, q.1.2.length ≤ 1048576 := by
  have hl : qs.length = m.rooms.length := by rw [← hm, List.length_map]
  refine ⟨by have := hs.1; omega, fun q hq => ?_⟩
  have hq' : q.1 ∈ m.rooms := by rw [← hm]; exact List.mem_map.2 ⟨q, hq, rfl⟩
  obtain ⟨j, hj, e⟩ := List.getElem_of_mem hq'
  have := hs.2 j hj
  have hat : roomAt m.rooms j = m.rooms[j] := by unfold roomAt; simp [List.getD, hj]
  rw [hat, e] at this
  exact this
theorem kEnd_all {qs : List (RoomV × Value)} (hl : qs.length ≤ 1048576) (hp : ∀ q ∈ qs, q.1.2.length ≤ 1048576) (k : Int) : k ≤ kEnd k qs ∧ kEnd k qs ≤ k + 2199024304128 := by
  have := kEnd_bd hp k qs.length (Nat.le_refl _)
  rw [List.take_length] at this
  omega

/-- A hall stays where another row of the call's own is written. -/
theorem OwnHall.keep {n₀ : Nat} {w w' : World} {u v : Value} {qs : List (RoomV × Value)} (h : OwnHall n₀ w v qs) (hg : w.grownBy w' u.ownBlock) (ho : OffHall u v qs) : OwnHall n₀ w' v qs :=
  ⟨own_same h.row fun k e => hg.block k (h.lt (.inl e)).2 (fun e' => ho.1 k e'.symm e), fun q hq => own_same (h.paces q hq) fun k e => hg.block k (h.lt (.inr ⟨q, hq, e⟩)).2 (fun e' => ho.2 q hq k e'.symm e), h.off, h.apart⟩

set_option maxRecDepth 100000 in
set_option maxHeartbeats 4000000 in
theorem markSmithy_any {n₀ : Nat} {w : World} {v0 v1 v2 v3 v4 : Value} {m : SmyV} {qs : List (RoomV × Value)} (k : Int) (h : FullSmy n₀ w v0 v1 v2 v3 v4 m qs) (hs : SmySmall m) (hn : n₀ ≤ w.heap.size) (hk0 : 0 ≤ k) (hk1 : k ≤ 1000000000) :
    Calls Tryz.prog 32 #[.agg #[v0, v1, v2, v3, v4, .int .i64 m.now], .int .i64 k] w fun e w' => e = .returned (.int .i64 (endM k m qs)) ∧ FullSmy n₀ w' v0 v1 v2 v3 v4 (markM k m qs) (markQ k qs) ∧ SmyOnly v0 v1 v2 v3 v4 qs w w' := by
  obtain ⟨sq, sp⟩ := small_qs hs.rooms h.rooms
  obtain ⟨e0, e1⟩ := kEnd_all sq sp k
  have Sp := hide sp
  obtain ⟨_, s1, s2, s3, s4⟩ := hs
  have hql : qs.length = m.rooms.length := by rw [← h.rooms, List.length_map]
  have Hf := hide h
  have Ha := hide (h.below ((Below.refl _ _).alloc (Nat.le_refl _) (.cells #[v0, v1, v2, v3, v4, .int .i64 m.now] 32)))
  obtain ⟨a0, p0, rfl⟩ := h.hall.shape
  obtain ⟨a1, p1, rfl⟩ := RecAt.shape h.guilds
  obtain ⟨a2, p2, rfl⟩ := RecAt.shape h.smiths
  obtain ⟨a3, p3, rfl⟩ := RecAt.shape h.desks
  obtain ⟨a4, p4, rfl⟩ := RecAt.shape h.paces
  rw [hql] at *
  clear h sp hql
  unfold endM
  generalize hke : kEnd k qs = ke at *
  have Hke := hide hke
  clear hke
  go_enter Tryz.func32, Tryz.ntmps32
  go_wp2_with fail
  have kb : Hid (Blk (w.alloc (.cells #[.slice a0 m.rooms.length p0, .slice a1 m.guilds.length p1, .slice a2 m.smiths.length p2, .slice a3 m.desks.length p3, .slice a4 m.paces.length p4, .int .i64 m.now] 32)) w.heap.size 32 #[.slice a0 m.rooms.length p0, .slice a1 m.guilds.length p1, .slice a2 m.smiths.length p2, .slice a3 m.desks.length p3, .slice a4 m.paces.length p4, .int .i64 m.now]) := hide (Blk.new w _ _)
  have OO : Hid (SmyOnly (.slice a0 m.rooms.length p0) (.slice a1 m.guilds.length p1) (.slice a2 m.smiths.length p2) (.slice a3 m.desks.length p3) (.slice a4 m.paces.length p4) qs w (w.alloc (.cells #[.slice a0 m.rooms.length p0, .slice a1 m.guilds.length p1, .slice a2 m.smiths.length p2, .slice a3 m.desks.length p3, .slice a4 m.paces.length p4, .int .i64 m.now] 32))) := hide ⟨rfl, rfl, rfl, by simp, fun k hk _ _ _ _ _ _ => Below.heap_alloc w _ k hk⟩
  have Ln : Hid (∀ b, ((Value.slice a0 m.rooms.length p0).ownBlock = some b ∨ ∃ q ∈ qs, q.2.ownBlock = some b) → b < w.heap.size) := hide (fun b e => ((unhide Hf).hall.lt e).2)
  have L1 : Hid (∀ b, (Value.slice a1 m.guilds.length p1).ownBlock = some b → b < w.heap.size) := hide (fun b e => (RecAt.lt (unhide Hf).guilds e).2)
  have L2 : Hid (∀ b, (Value.slice a2 m.smiths.length p2).ownBlock = some b → b < w.heap.size) := hide (fun b e => (RecAt.lt (unhide Hf).smiths e).2)
  have L3 : Hid (∀ b, (Value.slice a3 m.desks.length p3).ownBlock = some b → b < w.heap.size) := hide (fun b e => (RecAt.lt (unhide Hf).desks e).2)
  have L4 : Hid (∀ b, (Value.slice a4 m.paces.length p4).ownBlock = some b → b < w.heap.size) := hide (fun b e => (RecAt.lt (unhide Hf).paces e).2)
  have n0 := hide (unhide Ha).hall
  have n1 := hide (unhide Ha).guilds
  have n2 := hide (unhide Ha).smiths
  have n3 := hide (unhide Ha).desks
  have n4 := hide (unhide Ha).paces
  have hsz : w.heap.size < (w.alloc (.cells #[.slice a0 m.rooms.length p0, .slice a1 m.guilds.length p1, .slice a2 m.smiths.length p2, .slice a3 m.desks.length p3, .slice a4 m.paces.length p4, .int .i64 m.now] 32)).heap.size := (unhide kb).lt
  clear Ha
  generalize w.alloc (.cells #[.slice a0 m.rooms.length p0, .slice a1 m.guilds.length p1, .slice a2 m.smiths.length p2, .slice a3 m.desks.length p3, .slice a4 m.paces.length p4, .int .i64 m.now] 32) = W at *
  refine (markHall_any k (unhide n0) (by omega) hk0 hk1 (by omega) (unhide Sp)).mono ?_
  rintro e w1 ⟨rfl, ho, hb⟩
  rw [unhide Hke]
  replace n0 := hide ho
  replace n1 := hide (RecAt.same (unhide n1) fun b e => hb.block b (RecAt.lt (unhide n1) e).2 ((unhide Hf).h1.1 b e) (fun q hq => (unhide Hf).h1.2 q hq b e))
  replace n2 := hide (RecAt.same (unhide n2) fun b e => hb.block b (RecAt.lt (unhide n2) e).2 ((unhide Hf).h2.1 b e) (fun q hq => (unhide Hf).h2.2 q hq b e))
  replace n3 := hide (RecAt.same (unhide n3) fun b e => hb.block b (RecAt.lt (unhide n3) e).2 ((unhide Hf).h3.1 b e) (fun q hq => (unhide Hf).h3.2 q hq b e))
  replace n4 := hide (RecAt.same (unhide n4) fun b e => hb.block b (RecAt.lt (unhide n4) e).2 ((unhide Hf).h4.1 b e) (fun q hq => (unhide Hf).h4.2 q hq b e))
  replace kb := hide ((unhide kb).same (hb.block w.heap.size hsz (fun e => by have := unhide Ln _ (.inl e); omega) (fun q hq e => by have := unhide Ln _ (.inr ⟨q, hq, e⟩); omega)))
  replace OO := hide (⟨hb.os.trans (unhide OO).os, hb.tape.trans (unhide OO).tape, hb.output.trans (unhide OO).output, Nat.le_trans (unhide OO).size hb.size, fun k hk h0 hq h1 h2 h3 h4 => (hb.block k (Nat.lt_of_lt_of_le hk (unhide OO).size) h0 hq).trans ((unhide OO).block k hk h0 hq h1 h2 h3 h4)⟩ : SmyOnly _ _ _ _ _ qs w w1)
  replace hsz : w.heap.size < w1.heap.size := Nat.lt_of_lt_of_le hsz hb.size
  clear ho hb
  have c1 := (unhide kb).cell (i := 1) (v := .slice a1 m.guilds.length p1) rfl
  go_wp2_with fail
  clear c1
  refine (markGuildS_any (ke) (unhide n1) (by omega) (by omega) (by omega)).mono ?_
  rintro e w2 ⟨rfl, ho, hg⟩
  have hlt1 := fun b e => unhide L1 b e
  replace n0 := hide (OwnHall.keep (unhide n0) hg ((unhide Hf).h1.marked k))
  replace n2 := hide (RecAt.grown (unhide n2) hg (fun b e => fun e2 => ((unhide Hf).a12).symm b e e2))
  replace n3 := hide (RecAt.grown (unhide n3) hg (fun b e => fun e2 => ((unhide Hf).a13).symm b e e2))
  replace n4 := hide (RecAt.grown (unhide n4) hg (fun b e => fun e2 => ((unhide Hf).a14).symm b e e2))
  replace n1 := hide ho
  replace kb := hide ((unhide kb).same (hg.block w.heap.size hsz (fun e => by have := hlt1 _ e.symm; omega)))
  replace OO := hide (⟨hg.os.trans (unhide OO).os, hg.tape.trans (unhide OO).tape, hg.output.trans (unhide OO).output, Nat.le_trans (unhide OO).size hg.size, fun k hk h0 hq h1 h2 h3 h4 => (hg.block k (Nat.lt_of_lt_of_le hk (unhide OO).size) (fun e => h1 e.symm)).trans ((unhide OO).block k hk h0 hq h1 h2 h3 h4)⟩ : SmyOnly _ _ _ _ _ qs w w2)
  replace hsz : w.heap.size < w2.heap.size := Nat.lt_of_lt_of_le hsz hg.size
  clear ho hg hlt1
  have c2 := (unhide kb).cell (i := 2) (v := .slice a2 m.smiths.length p2) rfl
  go_wp2_with fail
  clear c2
  refine (markSmithS_any (ke + 3 * (m.guilds.length : Int)) (unhide n2) (by omega) (by omega) (by omega)).mono ?_
  rintro e w3 ⟨rfl, ho, hg⟩
  have hlt2 := fun b e => unhide L2 b e
  replace n0 := hide (OwnHall.keep (unhide n0) hg ((unhide Hf).h2.marked k))
  replace n1 := hide (RecAt.grown (unhide n1) hg (fun b e => fun e2 => (unhide Hf).a12 b e e2))
  replace n3 := hide (RecAt.grown (unhide n3) hg (fun b e => fun e2 => ((unhide Hf).a23).symm b e e2))
  replace n4 := hide (RecAt.grown (unhide n4) hg (fun b e => fun e2 => ((unhide Hf).a24).symm b e e2))
  replace n2 := hide ho
  replace kb := hide ((unhide kb).same (hg.block w.heap.size hsz (fun e => by have := hlt2 _ e.symm; omega)))
  replace OO := hide (⟨hg.os.trans (unhide OO).os, hg.tape.trans (unhide OO).tape, hg.output.trans (unhide OO).output, Nat.le_trans (unhide OO).size hg.size, fun k hk h0 hq h1 h2 h3 h4 => (hg.block k (Nat.lt_of_lt_of_le hk (unhide OO).size) (fun e => h2 e.symm)).trans ((unhide OO).block k hk h0 hq h1 h2 h3 h4)⟩ : SmyOnly _ _ _ _ _ qs w w3)
  replace hsz : w.heap.size < w3.heap.size := Nat.lt_of_lt_of_le hsz hg.size
  clear ho hg hlt2
  have c3 := (unhide kb).cell (i := 3) (v := .slice a3 m.desks.length p3) rfl
  go_wp2_with fail
  clear c3
  refine (markDeskS_any (ke + 3 * (m.guilds.length : Int) + 11 * (m.smiths.length : Int)) (unhide n3) (by omega) (by omega) (by omega)).mono ?_
  rintro e w4 ⟨rfl, ho, hg⟩
  have hlt3 := fun b e => unhide L3 b e
  replace n0 := hide (OwnHall.keep (unhide n0) hg ((unhide Hf).h3.marked k))
  replace n1 := hide (RecAt.grown (unhide n1) hg (fun b e => fun e2 => (unhide Hf).a13 b e e2))
  replace n2 := hide (RecAt.grown (unhide n2) hg (fun b e => fun e2 => (unhide Hf).a23 b e e2))
  replace n4 := hide (RecAt.grown (unhide n4) hg (fun b e => fun e2 => ((unhide Hf).a34).symm b e e2))
  replace n3 := hide ho
  replace kb := hide ((unhide kb).same (hg.block w.heap.size hsz (fun e => by have := hlt3 _ e.symm; omega)))
  replace OO := hide (⟨hg.os.trans (unhide OO).os, hg.tape.trans (unhide OO).tape, hg.output.trans (unhide OO).output, Nat.le_trans (unhide OO).size hg.size, fun k hk h0 hq h1 h2 h3 h4 => (hg.block k (Nat.lt_of_lt_of_le hk (unhide OO).size) (fun e => h3 e.symm)).trans ((unhide OO).block k hk h0 hq h1 h2 h3 h4)⟩ : SmyOnly _ _ _ _ _ qs w w4)
  replace hsz : w.heap.size < w4.heap.size := Nat.lt_of_lt_of_le hsz hg.size
  clear ho hg hlt3
  have c4 := (unhide kb).cell (i := 4) (v := .slice a4 m.paces.length p4) rfl
  go_wp2_with fail
  clear c4
  refine (markNums_any (ke + 3 * (m.guilds.length : Int) + 11 * (m.smiths.length : Int) + 3 * (m.desks.length : Int)) (unhide n4) (by omega) (by omega) (by omega)).mono ?_
  rintro e w5 ⟨rfl, ho, hg⟩
  have hlt4 := fun b e => unhide L4 b e
  replace n0 := hide (OwnHall.keep (unhide n0) hg ((unhide Hf).h4.marked k))
  replace n1 := hide (RecAt.grown (unhide n1) hg (fun b e => fun e2 => (unhide Hf).a14 b e e2))
  replace n2 := hide (RecAt.grown (unhide n2) hg (fun b e => fun e2 => (unhide Hf).a24 b e e2))
  replace n3 := hide (RecAt.grown (unhide n3) hg (fun b e => fun e2 => (unhide Hf).a34 b e e2))
  replace n4 := hide ho
  replace kb := hide ((unhide kb).same (hg.block w.heap.size hsz (fun e => by have := hlt4 _ e.symm; omega)))
  replace OO := hide (⟨hg.os.trans (unhide OO).os, hg.tape.trans (unhide OO).tape, hg.output.trans (unhide OO).output, Nat.le_trans (unhide OO).size hg.size, fun k hk h0 hq h1 h2 h3 h4 => (hg.block k (Nat.lt_of_lt_of_le hk (unhide OO).size) (fun e => h4 e.symm)).trans ((unhide OO).block k hk h0 hq h1 h2 h3 h4)⟩ : SmyOnly _ _ _ _ _ qs w w5)
  replace hsz : w.heap.size < w5.heap.size := Nat.lt_of_lt_of_le hsz hg.size
  clear ho hg hlt4
  go_wp2_with fail
  go_ret
  refine ⟨rfl, ⟨unhide n0, rfl, ?_, ?_, ?_, ?_, (unhide Hf).h1.marked k, (unhide Hf).h2.marked k, (unhide Hf).h3.marked k, (unhide Hf).h4.marked k, (unhide Hf).a12, (unhide Hf).a13, (unhide Hf).a14, (unhide Hf).a23, (unhide Hf).a24, (unhide Hf).a34⟩, unhide OO⟩
  · show RecAt _ _ _ _ _ _ (markM k m qs).guilds
    unfold markM
    rw [unhide Hke]
    exact unhide n1
  · show RecAt _ _ _ _ _ _ (markM k m qs).smiths
    unfold markM
    rw [unhide Hke]
    exact unhide n2
  · show RecAt _ _ _ _ _ _ (markM k m qs).desks
    unfold markM
    rw [unhide Hke]
    exact unhide n3
  · show RecAt _ _ _ _ _ _ (markM k m qs).paces
    unfold markM
    rw [unhide Hke]
    exact unhide n4

set_option maxRecDepth 100000 in
set_option maxHeartbeats 4000000 in
theorem heldSmithy_yes {n₀ : Nat} {w : World} {v0 v1 v2 v3 v4 : Value} {m : SmyV} {qs : List (RoomV × Value)} (k : Int) (h : FullSmy n₀ w v0 v1 v2 v3 v4 (markM k m qs) (markQ k qs)) (hr : Small m.rooms) (hm : qs.map (·.1) = m.rooms) (hs : SmySmall m) (hk0 : 0 ≤ k) (hk1 : k ≤ 1000000000) :
    Calls Tryz.prog 33 #[.agg #[v0, v1, v2, v3, v4, .int .i64 m.now], .int .i64 k] w fun e w' => e = .returned (.int .i64 (endM k m qs)) ∧ Below w.heap.size w w' := by
  obtain ⟨sq, sp⟩ := small_qs hr hm
  obtain ⟨e0, e1⟩ := kEnd_all sq sp k
  have Sp := hide sp
  obtain ⟨_, s1, s2, s3, s4⟩ := hs
  have Hf := hide h
  obtain ⟨a0, p0, rfl⟩ := h.hall.shape
  obtain ⟨a1, p1, rfl⟩ := RecAt.shape h.guilds
  obtain ⟨a2, p2, rfl⟩ := RecAt.shape h.smiths
  obtain ⟨a3, p3, rfl⟩ := RecAt.shape h.desks
  obtain ⟨a4, p4, rfl⟩ := RecAt.shape h.paces
  have l0 : (markQ k qs).length = m.rooms.length := by rw [markQ_len, ← hm, List.length_map]
  have l1 : (markM k m qs).guilds.length = m.guilds.length := markL_len _ _ _ _
  have l2 : (markM k m qs).smiths.length = m.smiths.length := markL_len _ _ _ _
  have l3 : (markM k m qs).desks.length = m.desks.length := markL_len _ _ _ _
  have l4 : (markM k m qs).paces.length = m.paces.length := marks_len _ _
  rw [l0, l1, l2, l3, l4] at Hf ⊢
  clear h sp l0 l1 l2 l3 l4
  unfold endM
  have G1 : Hid (∀ w', Below w.heap.size w w' → IsGuilds w' (.slice a1 m.guilds.length p1) (markL mkGuild 3 (kEnd k qs) m.guilds.length)) := hide fun w' hb => GuildsAt.list (RecAt.later (unhide Hf).guilds hb)
  have G2 : Hid (∀ w', Below w.heap.size w w' → IsSmiths w' (.slice a2 m.smiths.length p2) (markL mkSmith 11 (kEnd k qs + 3 * (m.guilds.length : Int)) m.smiths.length)) := hide fun w' hb => SmithsAt.list (RecAt.later (unhide Hf).smiths hb)
  have G3 : Hid (∀ w', Below w.heap.size w w' → IsDesks w' (.slice a3 m.desks.length p3) (markL mkDesk 3 (kEnd k qs + 3 * (m.guilds.length : Int) + 11 * (m.smiths.length : Int)) m.desks.length)) := hide fun w' hb => DesksAt.list (RecAt.later (unhide Hf).desks hb)
  have G4 : Hid (∀ w', Below w.heap.size w w' → NumsAt n₀ w' (.slice a4 m.paces.length p4) (marks (kEnd k qs + 3 * (m.guilds.length : Int) + 11 * (m.smiths.length : Int) + 3 * (m.desks.length : Int)) m.paces.length)) := hide fun w' hb => RecAt.later (unhide Hf).paces hb
  have G0 : Hid (∀ w', Below w.heap.size w w' → IsRooms w' (.slice a0 m.rooms.length p0) ((markQ k qs).map (·.1))) := hide fun w' hb => ((unhide Hf).hall.later hb).rooms
  have HH := hide (fun (w' : World) (h9 : IsRooms w' (.slice a0 m.rooms.length p0) ((markQ k qs).map (·.1))) => heldHall_yes k h9 hk0 hk1 sq (unhide Sp))
  generalize kEnd k qs = ke at *
  go_enter Tryz.func33, Tryz.ntmps33
  go_wp2_with fail
  have kb : Hid (Blk (w.alloc (.cells #[.slice a0 m.rooms.length p0, .slice a1 m.guilds.length p1, .slice a2 m.smiths.length p2, .slice a3 m.desks.length p3, .slice a4 m.paces.length p4, .int .i64 m.now] 32)) w.heap.size 32 #[.slice a0 m.rooms.length p0, .slice a1 m.guilds.length p1, .slice a2 m.smiths.length p2, .slice a3 m.desks.length p3, .slice a4 m.paces.length p4, .int .i64 m.now]) := hide (Blk.new w _ _)
  have BB : Hid (Below w.heap.size w (w.alloc (.cells #[.slice a0 m.rooms.length p0, .slice a1 m.guilds.length p1, .slice a2 m.smiths.length p2, .slice a3 m.desks.length p3, .slice a4 m.paces.length p4, .int .i64 m.now] 32))) := hide ((Below.refl _ _).alloc (Nat.le_refl _) _)
  generalize w.alloc (.cells #[.slice a0 m.rooms.length p0, .slice a1 m.guilds.length p1, .slice a2 m.smiths.length p2, .slice a3 m.desks.length p3, .slice a4 m.paces.length p4, .int .i64 m.now] 32) = W at *
  refine (unhide HH _ (unhide G0 _ (unhide BB))).mono ?_
  rintro e w1 ⟨rfl, hb⟩
  replace kb := hide ((unhide kb).below hb (unhide kb).lt)
  replace BB := hide ((unhide BB).trans (hb.mono (unhide BB).size))
  clear hb
  have c1 := (unhide kb).cell (i := 1) (v := .slice a1 m.guilds.length p1) rfl
  go_wp2_with fail
  clear c1
  refine (heldGuildS_yes (ke) _ (unhide G1 _ (unhide BB)) (by omega) (by omega) (by omega)).mono ?_
  rintro e w' ⟨rfl, h9⟩
  subst w'
  have c2 := (unhide kb).cell (i := 2) (v := .slice a2 m.smiths.length p2) rfl
  go_wp2_with fail
  clear c2
  refine (heldSmithS_yes (ke + 3 * (m.guilds.length : Int)) _ (unhide G2 _ (unhide BB)) (by omega) (by omega) (by omega)).mono ?_
  rintro e w' ⟨rfl, h9⟩
  subst w'
  have c3 := (unhide kb).cell (i := 3) (v := .slice a3 m.desks.length p3) rfl
  go_wp2_with fail
  clear c3
  refine (heldDeskS_yes (ke + 3 * (m.guilds.length : Int) + 11 * (m.smiths.length : Int)) _ (unhide G3 _ (unhide BB)) (by omega) (by omega) (by omega)).mono ?_
  rintro e w' ⟨rfl, h9⟩
  subst w'
  have c4 := (unhide kb).cell (i := 4) (v := .slice a4 m.paces.length p4) rfl
  go_wp2_with fail
  clear c4
  refine (heldNums_yes (ke + 3 * (m.guilds.length : Int) + 11 * (m.smiths.length : Int) + 3 * (m.desks.length : Int)) _ (unhide G4 _ (unhide BB)) (by omega) (by omega) (by omega)).mono ?_
  rintro e w' ⟨rfl, h9⟩
  subst w'
  go_wp2_with fail
  go_ret
  exact ⟨rfl, unhide BB⟩

end Go.Proofs.YtifolooecfebfaaGreat

/- For the laws' frames over smithies: which blocks are a smithy's own, and what stays where only these differ. No condition but those that a theorem names. -/
namespace Go.Proofs.YtifolooecfebfaaGreat
open Go.ChangeShapes Go.WideShapes Go.ChangeAt Go.RowKit Go.Sort
set_option linter.unusedVariables false

section
variable {w w' : World}
theorem SmyOnly.at {u0 u1 u2 u3 u4 : Value} {rs : List (RoomV × Value)} (h : SmyOnly u0 u1 u2 u3 u4 rs w w') {k : Nat} (hk : k < w.heap.size) (hn : ¬ OwnB u0 u1 u2 u3 u4 rs k) : w'.heap[k]? = w.heap[k]? :=
  h.block k hk (fun e => hn (.inl e)) (fun q hq e => hn (.inr (.inl ⟨q, hq, e⟩))) (fun e => hn (.inr (.inr (.inl e)))) (fun e => hn (.inr (.inr (.inr (.inl e))))) (fun e => hn (.inr (.inr (.inr (.inr (.inl e)))))) (fun e => hn (.inr (.inr (.inr (.inr (.inr e))))))
theorem SmyOnly.below {u0 u1 u2 u3 u4 : Value} {rs : List (RoomV × Value)} {B : Nat} (h : SmyOnly u0 u1 u2 u3 u4 rs w w') (hB : B ≤ w.heap.size) (ho : ∀ k, OwnB u0 u1 u2 u3 u4 rs k → B ≤ k) : Below B w w' :=
  ⟨h.os, h.tape, h.output, h.size, fun k hk => h.at (by omega) (fun e => by have := ho k e; omega)⟩
end
theorem endM_bd {m : SmyV} {qs : List (RoomV × Value)} (hs : SmySmall m) (hm : qs.map (·.1) = m.rooms) : 1 ≤ endM 1 m qs ∧ endM 1 m qs ≤ 10000000000000 := by
  obtain ⟨sq, sp⟩ := small_qs hs.rooms hm
  obtain ⟨e0, e1⟩ := kEnd_all sq sp 1
  obtain ⟨_, s1, s2, s3, s4⟩ := hs
  unfold endM
  omega

end Go.Proofs.YtifolooecfebfaaGreat

