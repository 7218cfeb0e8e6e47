/- What the proof rests on, part 17: lists and numbers, how they lie in memory, and contracts of the calls. No condition but those that a theorem names. -/
import Derived.Test.YtaegckehjlkaaaaGreatXe01
import Derived.Test.YtaegckehjlkaaaaGreatXe02
import Derived.Test.YtaegckehjlkaaaaGreatXe03
import Derived.Test.YtaegckehjlkaaaaGreatXe04
import Derived.Test.YtaegckehjlkaaaaGreatXe05
import Derived.Test.YtaegckehjlkaaaaGreatXe06
import Derived.Test.YtaegckehjlkaaaaGreatXe07
import Derived.Test.YtaegckehjlkaaaaGreatXe08
import Derived.Test.YtaegckehjlkaaaaGreatXe09
import Derived.Test.YtaegckehjlkaaaaGreatXe10
import Derived.Test.YtaegckehjlkaaaaGreatXe11
import Derived.Test.YtaegckehjlkaaaaGreatXe12
import Derived.Test.YtaegckehjlkaaaaGreatXe13
import Derived.Test.YtaegckehjlkaaaaGreatXe14
import Derived.Test.YtaegckehjlkaaaaGreatXe15
import Derived.Test.YtaegckehjlkaaaaGreatXe16
import Derived.Deep.RegionWith
import Derived.Deep.DeepCutAuto
import Derived.WalkMore
import Derived.Below
import Derived.ChangeKeysEq
import Derived.Laws.StructEq
import Derived.WalkKit
import Derived.ProofKit
import Derived.OpenShut
import Derived.Outline
import Derived.Lib.QuietBelow
import Derived.RangeFuncCalls
import Derived.Shelf.RegionOpen
import Derived.Deep.RegionHeld3
import Derived.Deep.DrawnRows
import Derived.BigRegion
import Derived.Deep.RegionLawGrows
import Derived.Deep.LoopGhost
import Derived.Deep.QuietTactic
import Derived.BigQuiet
import Derived.Laws.OwnMore
import Derived.OwnWalk
import Derived.Maps.AppendAt
import Derived.RangeFuncNested
import Derived.RangeFuncBound
import Derived.RangeFuncLeaves
import Derived.RangeFuncBox
import Derived.Shelf.Abstract
import Derived.OwnWalkIn
import Derived.TacticsInMore
import Derived.LoopNIn
import Derived.LoopIn
import Derived.Lib.SmallJoins
import Derived.Deep.Fields
import Derived.Deep.Slices
import Derived.OrdersHeld
import Derived.Deep.RegionHeldLaw
import Derived.Laws.CopyRow
/- Contracts of the laws' own helpers that mark a smithy and ask whether it holds its marks: smithies that the call itself made, no two rows in one block. Conditions: those that each theorem names. -/
namespace Go.Proofs.YtaegckehjlkaaaaGreat
open Go.ChangeShapes Go.WideShapes Go.ChangeAt Go.RowKit Go.Sort
set_option linter.unusedVariables false

theorem markQ_vals : ∀ (qs : List (RoomV × Value)) (k : Int), (markQ k qs).map (·.2) = qs.map (·.2)
  | [], _ => rfl
  | q :: qs, k => by
    have := markQ_vals qs (k + 1 + 2 * (q.1.2.length : Int))
    simp only [markQ, List.map_cons]
    rw [this]
theorem markQ_mem {qs : List (RoomV × Value)} {k : Int} {q : RoomV × Value} (h : q ∈ markQ k qs) : ∃ q' ∈ qs, q'.2 = q.2 := by
  have : q.2 ∈ (markQ k qs).map (·.2) := List.mem_map.2 ⟨q, h, rfl⟩
  rw [markQ_vals] at this
  exact List.mem_map.1 this
theorem OffHall.marked {u v : Value} {qs : List (RoomV × Value)} (h : OffHall u v qs) (k : Int) : OffHall u v (markQ k qs) :=
  ⟨h.1, fun q hq => by obtain ⟨q', h1, h2⟩ := markQ_mem hq; rw [← h2]; exact h.2 q' h1⟩
/-- Only the smithy's own blocks differ. -/
structure SmyOnly (v0 v1 v2 v3 v4 : Value) (qs : List (RoomV × Value)) (w w' : World) : Prop where
  os : w'.os = w.os
  tape : w'.tape = w.tape
  output : w'.output = w.output
  size : w.heap.size ≤ w'.heap.size
  block : ∀ k, k < w.heap.size → v0.ownBlock ≠ some k → (∀ q ∈ qs, q.2.ownBlock ≠ some k) → v1.ownBlock ≠ some k → v2.ownBlock ≠ some k → v3.ownBlock ≠ some k → v4.ownBlock ≠ some k → w'.heap[k]? = w.heap[k]?
def markM (k : Int) (m : SmyV) (qs : List (RoomV × Value)) : SmyV :=
  { rooms := (markQ k qs).map (·.1), guilds := markL mkGuild 3 (kEnd k qs) m.guilds.length, smiths := markL mkSmith 11 (kEnd k qs + 3 * (m.guilds.length : Int)) m.smiths.length,
    desks := markL mkDesk 3 (kEnd k qs + 3 * (m.guilds.length : Int) + 11 * (m.smiths.length : Int)) m.desks.length, paces := marks (kEnd k qs + 3 * (m.guilds.length : Int) + 11 * (m.smiths.length : Int) + 3 * (m.desks.length : Int)) m.paces.length, now := m.now }
def endM (k : Int) (m : SmyV) (qs : List (RoomV × Value)) : Int := kEnd k qs + 3 * (m.guilds.length : Int) + 11 * (m.smiths.length : Int) + 3 * (m.desks.length : Int) + (m.paces.length : Int)
theorem small_qs {m : SmyV} {qs : List (RoomV × Value)} (hs : Small m.rooms) (hm : qs.map (·.1) = m.rooms) : qs.length ≤ 1048576 ∧ ∀ q ∈ qs, q.1.2.length ≤ 1048576 := by
  have hl : qs.length = m.rooms.length := by rw [← hm, List.length_map]
  refine ⟨by have := hs.1; omega, fun q hq => ?_⟩
  have hq' : q.1 ∈ m.rooms := by rw [← hm]; exact List.mem_map.2 ⟨q, hq, rfl⟩
  obtain ⟨j, hj, e⟩ := List.getElem_of_mem hq'
  have := hs.2 j hj
  have hat : roomAt m.rooms j = m.rooms[j] := by unfold roomAt; simp [List.getD, hj]
  rw [hat, e] at this
  exact this
theorem kEnd_all {qs : List (RoomV × Value)} (hl : qs.length ≤ 1048576) (hp : ∀ q ∈ qs, q.1.2.length ≤ 1048576) (k : Int) : k ≤ kEnd k qs ∧ kEnd k qs ≤ k + 2199024304128 := by
  have := kEnd_bd hp k qs.length (Nat.le_refl _)
  rw [List.take_length] at this
  omega

/-- A hall stays where another row of the call's own is written. -/
theorem OwnHall.keep {n₀ : Nat} {w w' : World} {u v : Value} {qs : List (RoomV × Value)} (h : OwnHall n₀ w v qs) (hg : w.grownBy w' u.ownBlock) (ho : OffHall u v qs) : OwnHall n₀ w' v qs :=
  ⟨own_same h.row fun k e => hg.block k (h.lt (.inl e)).2 (fun e' => ho.1 k e'.symm e), fun q hq => own_same (h.paces q hq) fun k e => hg.block k (h.lt (.inr ⟨q, hq, e⟩)).2 (fun e' => ho.2 q hq k e'.symm e), h.off, h.apart⟩

set_option maxRecDepth 100000 in
set_option maxHeartbeats 4000000 in
theorem markSmithy_any {n₀ : Nat} {w : World} {v0 v1 v2 v3 v4 : Value} {m : SmyV} {qs : List (RoomV × Value)} (k : Int) (h : FullSmy n₀ w v0 v1 v2 v3 v4 m qs) (hs : SmySmall m) (hn : n₀ ≤ w.heap.size) (hk0 : 0 ≤ k) (hk1 : k ≤ 1000000000) :
    Calls Tryz.prog 49 #[.agg #[v0, v1, v2, v3, v4, .int .i64 m.now], .int .i64 k] w fun e w' => e = .returned (.int .i64 (endM k m qs)) ∧ FullSmy n₀ w' v0 v1 v2 v3 v4 (markM k m qs) (markQ k qs) ∧ SmyOnly v0 v1 v2 v3 v4 qs w w' := by
  obtain ⟨sq, sp⟩ := small_qs hs.rooms h.rooms
  obtain ⟨e0, e1⟩ := kEnd_all sq sp k
  have Sp := hide sp
  obtain ⟨_, s1, s2, s3, s4⟩ := hs
  have hql : qs.length = m.rooms.length := by rw [← h.rooms, List.length_map]
  have Hf := hide h
  have Ha := hide (h.below ((Below.refl _ _).alloc (Nat.le_refl _) (.cells #[v0, v1, v2, v3, v4, .int .i64 m.now] 32)))
  obtain ⟨a0, p0, rfl⟩ := h.hall.shape
  obtain ⟨a1, p1, rfl⟩ := RecAt.shape h.guilds
  obtain ⟨a2, p2, rfl⟩ := RecAt.shape h.smiths
  obtain ⟨a3, p3, rfl⟩ := RecAt.shape h.desks
  obtain ⟨a4, p4, rfl⟩ := RecAt.shape h.paces
  rw [hql] at *
  clear h sp hql
  unfold endM
  generalize hke : kEnd k qs = ke at *
  have Hke := hide hke
  clear hke
  go_enter Tryz.func49, Tryz.ntmps49
  go_wp2_with fail
  have kb : Hid (Blk (w.alloc (.cells #[.slice a0 m.rooms.length p0, .slice a1 m.guilds.length p1, .slice a2 m.smiths.length p2, .slice a3 m.desks.length p3, .slice a4 m.paces.length p4, .int .i64 m.now] 32)) w.heap.size 32 #[.slice a0 m.rooms.length p0, .slice a1 m.guilds.length p1, .slice a2 m.smiths.length p2, .slice a3 m.desks.length p3, .slice a4 m.paces.length p4, .int .i64 m.now]) := hide (Blk.new w _ _)
  have OO : Hid (SmyOnly (.slice a0 m.rooms.length p0) (.slice a1 m.guilds.length p1) (.slice a2 m.smiths.length p2) (.slice a3 m.desks.length p3) (.slice a4 m.paces.length p4) qs w (w.alloc (.cells #[.slice a0 m.rooms.length p0, .slice a1 m.guilds.length p1, .slice a2 m.smiths.length p2, .slice a3 m.desks.length p3, .slice a4 m.paces.length p4, .int .i64 m.now] 32))) := hide ⟨rfl, rfl, rfl, by simp, fun k hk _ _ _ _ _ _ => Below.heap_alloc w _ k hk⟩
  have Ln : Hid (∀ b, ((Value.slice a0 m.rooms.length p0).ownBlock = some b ∨ ∃ q ∈ qs, q.2.ownBlock = some b) → b < w.heap.size) := hide (fun b e => ((unhide Hf).hall.lt e).2)
  have L1 : Hid (∀ b, (Value.slice a1 m.guilds.length p1).ownBlock = some b → b < w.heap.size) := hide (fun b e => (RecAt.lt (unhide Hf).guilds e).2)
  have L2 : Hid (∀ b, (Value.slice a2 m.smiths.length p2).ownBlock = some b → b < w.heap.size) := hide (fun b e => (RecAt.lt (unhide Hf).smiths e).2)
  have L3 : Hid (∀ b, (Value.slice a3 m.desks.length p3).ownBlock = some b → b < w.heap.size) := hide (fun b e => (RecAt.lt (unhide Hf).desks e).2)
  have L4 : Hid (∀ b, (Value.slice a4 m.paces.length p4).ownBlock = some b → b < w.heap.size) := hide (fun b e => (RecAt.lt (unhide Hf).paces e).2)
  have n0 := hide (unhide Ha).hall
  have n1 := hide (unhide Ha).guilds
  have n2 := hide (unhide Ha).smiths
  have n3 := hide (unhide Ha).desks
  have n4 := hide (unhide Ha).paces
  have hsz : w.heap.size < (w.alloc (.cells #[.slice a0 m.rooms.length p0, .slice a1 m.guilds.length p1, .slice a2 m.smiths.length p2, .slice a3 m.desks.length p3, .slice a4 m.paces.length p4, .int .i64 m.now] 32)).heap.size := (unhide kb).lt
  clear Ha
  generalize w.alloc (.cells #[.slice a0 m.rooms.length p0, .slice a1 m.guilds.length p1, .slice a2 m.smiths.length p2, .slice a3 m.desks.length p3, .slice a4 m.paces.length p4, .int .i64 m.now] 32) = W at *
  refine (markHall_any k (unhide n0) (by omega) hk0 hk1 (by omega) (unhide Sp)).mono ?_
  rintro e w1 ⟨rfl, ho, hb⟩
  rw [unhide Hke]
  replace n0 := hide ho
  replace n1 := hide (RecAt.same (unhide n1) fun b e => hb.block b (RecAt.lt (unhide n1) e).2 ((unhide Hf).h1.1 b e) (fun q hq => (unhide Hf).h1.2 q hq b e))
  replace n2 := hide (RecAt.same (unhide n2) fun b e => hb.block b (RecAt.lt (unhide n2) e).2 ((unhide Hf).h2.1 b e) (fun q hq => (unhide Hf).h2.2 q hq b e))
  replace n3 := hide (RecAt.same (unhide n3) fun b e => hb.block b (RecAt.lt (unhide n3) e).2 ((unhide Hf).h3.1 b e) (fun q hq => (unhide Hf).h3.2 q hq b e))
  replace n4 := hide (RecAt.same (unhide n4) fun b e => hb.block b (RecAt.lt (unhide n4) e).2 ((unhide Hf).h4.1 b e) (fun q hq => (unhide Hf).h4.2 q hq b e))
  replace kb := hide ((unhide kb).same (hb.block w.heap.size hsz (fun e => by have := unhide Ln _ (.inl e); omega) (fun q hq e => by have := unhide Ln _ (.inr ⟨q, hq, e⟩); omega)))
  replace OO := hide (⟨hb.os.trans (unhide OO).os, hb.tape.trans (unhide OO).tape, hb.output.trans (unhide OO).output, Nat.le_trans (unhide OO).size hb.size, fun k hk h0 hq h1 h2 h3 h4 => (hb.block k (Nat.lt_of_lt_of_le hk (unhide OO).size) h0 hq).trans ((unhide OO).block k hk h0 hq h1 h2 h3 h4)⟩ : SmyOnly _ _ _ _ _ qs w w1)
  replace hsz : w.heap.size < w1.heap.size := Nat.lt_of_lt_of_le hsz hb.size
  clear ho hb
  have c1 := (unhide kb).cell (i := 1) (v := .slice a1 m.guilds.length p1) rfl
  go_wp2_with fail
  clear c1
  refine (markGuildS_any (ke) (unhide n1) (by omega) (by omega) (by omega)).mono ?_
  rintro e w2 ⟨rfl, ho, hg⟩
  have hlt1 := fun b e => unhide L1 b e
  replace n0 := hide (OwnHall.keep (unhide n0) hg ((unhide Hf).h1.marked k))
  replace n2 := hide (RecAt.grown (unhide n2) hg (fun b e => fun e2 => ((unhide Hf).a12).symm b e e2))
  replace n3 := hide (RecAt.grown (unhide n3) hg (fun b e => fun e2 => ((unhide Hf).a13).symm b e e2))
  replace n4 := hide (RecAt.grown (unhide n4) hg (fun b e => fun e2 => ((unhide Hf).a14).symm b e e2))
  replace n1 := hide ho
  replace kb := hide ((unhide kb).same (hg.block w.heap.size hsz (fun e => by have := hlt1 _ e.symm; omega)))
  replace OO := hide (⟨hg.os.trans (unhide OO).os, hg.tape.trans (unhide OO).tape, hg.output.trans (unhide OO).output, Nat.le_trans (unhide OO).size hg.size, fun k hk h0 hq h1 h2 h3 h4 => (hg.block k (Nat.lt_of_lt_of_le hk (unhide OO).size) (fun e => h1 e.symm)).trans ((unhide OO).block k hk h0 hq h1 h2 h3 h4)⟩ : SmyOnly _ _ _ _ _ qs w w2)
  replace hsz : w.heap.size < w2.heap.size := Nat.lt_of_lt_of_le hsz hg.size
  clear ho hg hlt1
  have c2 := (unhide kb).cell (i := 2) (v := .slice a2 m.smiths.length p2) rfl
  go_wp2_with fail
  clear c2
  refine (markSmithS_any (ke + 3 * (m.guilds.length : Int)) (unhide n2) (by omega) (by omega) (by omega)).mono ?_
  rintro e w3 ⟨rfl, ho, hg⟩
  have hlt2 := fun b e => unhide L2 b e
  replace n0 := hide (OwnHall.keep (unhide n0) hg ((unhide Hf).h2.marked k))
  replace n1 := hide (RecAt.grown (unhide n1) hg (fun b e => fun e2 => (unhide Hf).a12 b e e2))
  replace n3 := hide (RecAt.grown (unhide n3) hg (fun b e => fun e2 => ((unhide Hf).a23).symm b e e2))
  replace n4 := hide (RecAt.grown (unhide n4) hg (fun b e => fun e2 => ((unhide Hf).a24).symm b e e2))
  replace n2 := hide ho
  replace kb := hide ((unhide kb).same (hg.block w.heap.size hsz (fun e => by have := hlt2 _ e.symm; omega)))
  replace OO := hide (⟨hg.os.trans (unhide OO).os, hg.tape.trans (unhide OO).tape, hg.output.trans (unhide OO).output, Nat.le_trans (unhide OO).size hg.size, fun k hk h0 hq h1 h2 h3 h4 => (hg.block k (Nat.lt_of_lt_of_le hk (unhide OO).size) (fun e => h2 e.symm)).trans ((unhide OO).block k hk h0 hq h1 h2 h3 h4)⟩ : SmyOnly _ _ _ _ _ qs w w3)
  replace hsz : w.heap.size < w3.heap.size := Nat.lt_of_lt_of_le hsz hg.size
  clear ho hg hlt2
  have c3 := (unhide kb).cell (i := 3) (v := .slice a3 m.desks.length p3) rfl
  go_wp2_with fail
  clear c3
  refine (markDeskS_any (ke + 3 * (m.guilds.length : Int) + 11 * (m.smiths.length : Int)) (unhide n3) (by omega) (by omega) (by omega)).mono ?_
  rintro e w4 ⟨rfl, ho, hg⟩
  have hlt3 := fun b e => unhide L3 b e
  replace n0 := hide (OwnHall.keep (unhide n0) hg ((unhide Hf).h3.marked k))
  replace n1 := hide (RecAt.grown (unhide n1) hg (fun b e => fun e2 => (unhide Hf).a13 b e e2))
  replace n2 := hide (RecAt.grown (unhide n2) hg (fun b e => fun e2 => (unhide Hf).a23 b e e2))
  replace n4 := hide (RecAt.grown (unhide n4) hg (fun b e => fun e2 => ((unhide Hf).a34).symm b e e2))
  replace n3 := hide ho
  replace kb := hide ((unhide kb).same (hg.block w.heap.size hsz (fun e => by have := hlt3 _ e.symm; omega)))
  replace OO := hide (⟨hg.os.trans (unhide OO).os, hg.tape.trans (unhide OO).tape, hg.output.trans (unhide OO).output, Nat.le_trans (unhide OO).size hg.size, fun k hk h0 hq h1 h2 h3 h4 => (hg.block k (Nat.lt_of_lt_of_le hk (unhide OO).size) (fun e => h3 e.symm)).trans ((unhide OO).block k hk h0 hq h1 h2 h3 h4)⟩ : SmyOnly _ _ _ _ _ qs w w4)
  replace hsz : w.heap.size < w4.heap.size := Nat.lt_of_lt_of_le hsz hg.size
  clear ho hg hlt3
  have c4 := (unhide kb).cell (i := 4) (v := .slice a4 m.paces.length p4) rfl
  go_wp2_with fail
  clear c4
  refine (markNums_any (ke + 3 * (m.guilds.length : Int) + 11 * (m.smiths.length : Int) + 3 * (m.desks.length : Int)) (unhide n4) (by omega) (by omega) (by omega)).mono ?_
  rintro e w5 ⟨rfl, ho, hg⟩
  have hlt4 := fun b e => unhide L4 b e
  replace n0 := hide (OwnHall.keep (unhide n0) hg ((unhide Hf).h4.marked k))
  replace n1 := hide (RecAt.grown (unhide n1) hg (fun b e => fun e2 => (unhide Hf).a14 b e e2))
  replace n2 := hide (RecAt.grown (unhide n2) hg (fun b e => fun e2 => (unhide Hf).a24 b e e2))
  replace n3 := hide (RecAt.grown (unhide n3) hg (fun b e => fun e2 => (unhide Hf).a34 b e e2))
  replace n4 := hide ho
  replace kb := hide ((unhide kb).same (hg.block w.heap.size hsz (fun e => by have := hlt4 _ e.symm; omega)))
  replace OO := hide (⟨hg.os.trans (unhide OO).os, hg.tape.trans (unhide OO).tape, hg.output.trans (unhide OO).output, Nat.le_trans (unhide OO).size hg.size, fun k hk h0 hq h1 h2 h3 h4 => (hg.block k (Nat.lt_of_lt_of_le hk (unhide OO).size) (fun e => h4 e.symm)).trans ((unhide OO).block k hk h0 hq h1 h2 h3 h4)⟩ : SmyOnly _ _ _ _ _ qs w w5)
  replace hsz : w.heap.size < w5.heap.size := Nat.lt_of_lt_of_le hsz hg.size
  clear ho hg hlt4
  go_wp2_with fail
  go_ret
  refine ⟨rfl, ⟨unhide n0, rfl, ?_, ?_, ?_, ?_, (unhide Hf).h1.marked k, (unhide Hf).h2.marked k, (unhide Hf).h3.marked k, (unhide Hf).h4.marked k, (unhide Hf).a12, (unhide Hf).a13, (unhide Hf).a14, (unhide Hf).a23, (unhide Hf).a24, (unhide Hf).a34⟩, unhide OO⟩
  · show RecAt _ _ _ _ _ _ (markM k m qs).guilds
    unfold markM
    rw [unhide Hke]
    exact unhide n1
  · show RecAt _ _ _ _ _ _ (markM k m qs).smiths
    unfold markM
    rw [unhide Hke]
    exact unhide n2
  · show RecAt _ _ _ _ _ _ (markM k m qs).desks
    unfold markM
    rw [unhide Hke]
    exact unhide n3
  · show RecAt _ _ _ _ _ _ (markM k m qs).paces
    unfold markM
    rw [unhide Hke]
    exact unhide n4

end Go.Proofs.YtaegckehjlkaaaaGreat

/- For the laws' frames over smithies: which blocks are a smithy's own, and what stays where only these differ. No condition but those that a theorem names. -/
namespace Go.Proofs.YtaegckehjlkaaaaGreat
open Go.ChangeShapes Go.WideShapes Go.ChangeAt Go.RowKit Go.Sort
set_option linter.unusedVariables false

section
variable {w w' : World}
theorem SmyOnly.at {u0 u1 u2 u3 u4 : Value} {rs : List (RoomV × Value)} (h : SmyOnly u0 u1 u2 u3 u4 rs w w') {k : Nat} (hk : k < w.heap.size) (hn : ¬ OwnB u0 u1 u2 u3 u4 rs k) : w'.heap[k]? = w.heap[k]? :=
  h.block k hk (fun e => hn (.inl e)) (fun q hq e => hn (.inr (.inl ⟨q, hq, e⟩))) (fun e => hn (.inr (.inr (.inl e)))) (fun e => hn (.inr (.inr (.inr (.inl e))))) (fun e => hn (.inr (.inr (.inr (.inr (.inl e)))))) (fun e => hn (.inr (.inr (.inr (.inr (.inr e))))))
theorem SmyOnly.below {u0 u1 u2 u3 u4 : Value} {rs : List (RoomV × Value)} {B : Nat} (h : SmyOnly u0 u1 u2 u3 u4 rs w w') (hB : B ≤ w.heap.size) (ho : ∀ k, OwnB u0 u1 u2 u3 u4 rs k → B ≤ k) : Below B w w' :=
  ⟨h.os, h.tape, h.output, h.size, fun k hk => h.at (by omega) (fun e => by have := ho k e; omega)⟩
end
theorem endM_bd {m : SmyV} {qs : List (RoomV × Value)} (hs : SmySmall m) (hm : qs.map (·.1) = m.rooms) : 1 ≤ endM 1 m qs ∧ endM 1 m qs ≤ 10000000000000 := by
  obtain ⟨sq, sp⟩ := small_qs hs.rooms hm
  obtain ⟨e0, e1⟩ := kEnd_all sq sp 1
  obtain ⟨_, s1, s2, s3, s4⟩ := hs
  unfold endM
  omega

end Go.Proofs.YtaegckehjlkaaaaGreat

/- The walk of the exact law on Fitting. Condition: the smithy can be read. -/
namespace Go.Proofs.YtaegckehjlkaaaaGreat
open Go.ChangeShapes Go.WideShapes Go.ChangeAt Go.RowKit Go.Sort
set_option linter.unusedVariables false
set_option linter.unusedSimpArgs false
set_option maxRecDepth 100000

set_option maxRecDepth 100000 in
set_option maxHeartbeats 16000000 in
theorem walkFnExactFitting_of (hS : (∀ (w : World) (v0 v1 v2 v3 v4 : Value) (m : SmyV) (who : Int), Smy w v0 v1 v2 v3 v4 m → Calls Tryz.prog 29 #[.agg #[v0, v1, v2, v3, v4, .int .i64 m.now], .int .i64 who] w fun e w' => ∃ v', e = .returned v' ∧ NumsAt w.heap.size w' v' (fittingOfV m who) ∧ Below w.heap.size w w')) (hI : (∀ (w : World) (v0 v1 v2 v3 v4 : Value) (m : SmyV) (who : Int), Smy w v0 v1 v2 v3 v4 m → Calls Tryz.prog 26 #[.agg #[v0, v1, v2, v3, v4, .int .i64 m.now], .int .i64 who] w fun e w' => ∃ v', e = .returned v' ∧ NumsAt w.heap.size w' v' (fittingOfV m who) ∧ Below w.heap.size w w')) (hlen : ∀ (m : SmyV) (who : Int), (fittingOfV m who).length ≤ 1000) (v0 v1 v2 v3 v4 : Value) (m : SmyV) (who : Int) (w : World) (h : Smy w v0 v1 v2 v3 v4 m) :
    Calls Tryz.prog 7 #[.agg #[v0, v1, v2, v3, v4, .int .i64 m.now], .int .i64 who] w fun e w' => e = .returned (.bool true) ∧ Below w.heap.size w w' := by
  have HS := hide hS
  have HI := hide hI
  clear hS hI
  have Hv := hide h
  obtain ⟨a0, p0, rfl, _, _⟩ := IsRooms.shape h.rooms
  obtain ⟨a1, p1, rfl, _, _⟩ := IsRec.shape h.guilds
  obtain ⟨a2, p2, rfl, _, _⟩ := IsRec.shape h.smiths
  obtain ⟨a3, p3, rfl, _, _⟩ := IsRec.shape h.desks
  obtain ⟨a4, p4, rfl, _, _⟩ := IsRec.shape h.paces
  clear h
  have hL := hlen m who
  have HS1 := hide (fun W u0 u1 u2 u3 u4 => unhide HS W u0 u1 u2 u3 u4 m who)
  have HI1 := hide (fun W u0 u1 u2 u3 u4 => unhide HI W u0 u1 u2 u3 u4 m who)
  clear HS HI hlen
  generalize fittingOfV m who = L at *
  go_enter Tryz.func7, Tryz.ntmps7
  go_wp2_with fail
  refine (szSmithy_any ((unhide Hv).alloc _)).mono ?_
  rintro e w1 ⟨x, rfl, hx, hb⟩
  have ka : Hid (Blk w1 w.heap.size 69 #[.slice a0 m.rooms.length p0, .slice a1 m.guilds.length p1, .slice a2 m.smiths.length p2, .slice a3 m.desks.length p3, .slice a4 m.paces.length p4, .int .i64 m.now]) := hide ((Blk.new w _ _).below hb (by simp))
  have BB : Hid (Below w.heap.size w w1) := hide (((Below.refl _ _).alloc (Nat.le_refl _) _).trans (hb.mono (by simp)))
  have Hx := hide hx
  clear hx hb
  by_cases hx0 : x < 0
  · go_wp2_with fail
    go_ret
    exact ⟨rfl, unhide BB⟩
  have Hs := hide (unhide Hx (by omega))
  clear Hx
  have c0 := (unhide ka).cell (i := 0) (v := .slice a0 m.rooms.length p0) rfl
  have c1 := (unhide ka).cell (i := 1) (v := .slice a1 m.guilds.length p1) rfl
  have c2 := (unhide ka).cell (i := 2) (v := .slice a2 m.smiths.length p2) rfl
  have c3 := (unhide ka).cell (i := 3) (v := .slice a3 m.desks.length p3) rfl
  have c4 := (unhide ka).cell (i := 4) (v := .slice a4 m.paces.length p4) rfl
  have c5 := (unhide ka).cell (i := 5) (v := .int .i64 m.now) rfl
  go_wp2_with fail
  refine (toSmithy_any ((unhide Hv).below (unhide BB)) (unhide Hs)).mono ?_
  rintro e w2 ⟨u0, u1, u2, u3, u4, rfl, ho, hb⟩
  clear c0 c1 c2 c3 c4 c5
  have k2 := ho.smy
  obtain ⟨b0, q0, rfl, _, _⟩ := IsRooms.shape k2.rooms
  obtain ⟨b1, q1, rfl, _, _⟩ := IsRec.shape k2.guilds
  obtain ⟨b2, q2, rfl, _, _⟩ := IsRec.shape k2.smiths
  obtain ⟨b3, q3, rfl, _, _⟩ := IsRec.shape k2.desks
  obtain ⟨b4, q4, rfl, _, _⟩ := IsRec.shape k2.paces
  have K2 := hide k2
  clear k2 ho
  replace ka := hide ((unhide ka).below hb (unhide ka).lt)
  replace BB := hide ((unhide BB).trans (hb.mono (unhide BB).size))
  clear hb
  go_wp2_with fail
  refine (unhide HS1 _ _ _ _ _ _ (unhide K2)).mono ?_
  rintro e w3 ⟨v9, rfl, ho9, hb⟩
  obtain ⟨ua, uc, rfl⟩ := RecAt.shape ho9
  have hsz2 := (unhide BB).size
  replace ka := hide ((unhide ka).below hb (unhide ka).lt)
  replace BB := hide ((unhide BB).trans (hb.mono (unhide BB).size))
  have HU := hide (RecAt.mono ho9 hsz2)
  have hw3 : w.heap.size < w3.heap.size := (unhide ka).lt
  clear hb ho9 K2 hsz2
  have LU : Hid (∀ k, (Value.slice ua L.length uc).ownBlock = some k → k < w3.heap.size) := hide (fun k e => (RecAt.lt (unhide HU) e).2)
  have c0 := (unhide ka).cell (i := 0) (v := .slice a0 m.rooms.length p0) rfl
  have c1 := (unhide ka).cell (i := 1) (v := .slice a1 m.guilds.length p1) rfl
  have c2 := (unhide ka).cell (i := 2) (v := .slice a2 m.smiths.length p2) rfl
  have c3 := (unhide ka).cell (i := 3) (v := .slice a3 m.desks.length p3) rfl
  have c4 := (unhide ka).cell (i := 4) (v := .slice a4 m.paces.length p4) rfl
  have c5 := (unhide ka).cell (i := 5) (v := .int .i64 m.now) rfl
  go_wp2_with fail
  have hn3 : w3.heap.size ≤ w3.heap.size := Nat.le_refl _
  refine (toSmithy_full ((unhide Hv).below (unhide BB)) (unhide Hs)).mono ?_
  rintro e w4 ⟨z0, z1, z2, z3, z4, xq, rfl, ho, hb⟩
  clear c0 c1 c2 c3 c4 c5
  have k4 := ho.smy
  obtain ⟨d0, r0, rfl, _, _⟩ := IsRooms.shape k4.rooms
  obtain ⟨d1, r1, rfl, _, _⟩ := IsRec.shape k4.guilds
  obtain ⟨d2, r2, rfl, _, _⟩ := IsRec.shape k4.smiths
  obtain ⟨d3, r3, rfl, _, _⟩ := IsRec.shape k4.desks
  obtain ⟨d4, r4, rfl, _, _⟩ := IsRec.shape k4.paces
  clear k4
  replace ka := hide ((unhide ka).below hb (unhide ka).lt)
  replace HU := hide (RecAt.later (unhide HU) hb)
  replace BB := hide ((unhide BB).trans (hb.mono (unhide BB).size))
  have HX := hide ho
  have LX : Hid (∀ k, OwnB (.slice d0 m.rooms.length r0) (.slice d1 m.guilds.length r1) (.slice d2 m.smiths.length r2) (.slice d3 m.desks.length r3) (.slice d4 m.paces.length r4) xq k → w3.heap.size ≤ k ∧ k < w4.heap.size) := hide (fun k e => ho.own e)
  have hsz4 := hb.size
  clear hb ho hn3
  go_wp2_with fail
  have hba : Below w4.heap.size w4 (w4.alloc (.cells #[.slice d0 m.rooms.length r0, .slice d1 m.guilds.length r1, .slice d2 m.smiths.length r2, .slice d3 m.desks.length r3, .slice d4 m.paces.length r4, .int .i64 m.now] 32)) := (Below.refl _ _).alloc (Nat.le_refl _) _
  replace ka := hide ((unhide ka).below hba (unhide ka).lt)
  replace HU := hide (RecAt.later (unhide HU) hba)
  replace HX := hide ((unhide HX).below hba)
  replace BB := hide ((unhide BB).trans (hba.mono (unhide BB).size))
  have kx : Hid (Blk (w4.alloc (.cells #[.slice d0 m.rooms.length r0, .slice d1 m.guilds.length r1, .slice d2 m.smiths.length r2, .slice d3 m.desks.length r3, .slice d4 m.paces.length r4, .int .i64 m.now] 32)) w4.heap.size 32 #[.slice d0 m.rooms.length r0, .slice d1 m.guilds.length r1, .slice d2 m.smiths.length r2, .slice d3 m.desks.length r3, .slice d4 m.paces.length r4, .int .i64 m.now]) := hide (Blk.new _ _ _)
  have hszW : w4.heap.size + 1 ≤ (w4.alloc (.cells #[.slice d0 m.rooms.length r0, .slice d1 m.guilds.length r1, .slice d2 m.smiths.length r2, .slice d3 m.desks.length r3, .slice d4 m.paces.length r4, .int .i64 m.now] 32)).heap.size := by simp
  clear hba
  generalize w4.alloc (.cells #[.slice d0 m.rooms.length r0, .slice d1 m.guilds.length r1, .slice d2 m.smiths.length r2, .slice d3 m.desks.length r3, .slice d4 m.paces.length r4, .int .i64 m.now] 32) = W at *
  refine (unhide HI1 _ _ _ _ _ _ (unhide HX).smy).mono ?_
  rintro e w5 ⟨v9, rfl, ho9, hb⟩
  obtain ⟨ga, gc, rfl⟩ := RecAt.shape ho9
  replace ka := hide ((unhide ka).below hb (unhide ka).lt)
  replace HU := hide (RecAt.later (unhide HU) hb)
  replace HX := hide ((unhide HX).below hb)
  replace kx := hide ((unhide kx).below hb (unhide kx).lt)
  replace BB := hide ((unhide BB).trans (hb.mono (unhide BB).size))
  have HG := hide (RecAt.mono (n₁ := w4.heap.size + 1) ho9 hszW)
  have hsz5 : w4.heap.size + 1 ≤ w5.heap.size := Nat.le_trans hszW hb.size
  clear hb ho9 hszW
  have LG : Hid (∀ k, (Value.slice ga L.length gc).ownBlock = some k → w4.heap.size < k) := hide (fun k e => Nat.lt_of_succ_le (RecAt.lt (unhide HG) e).1)
  generalize w4.heap.size = xb at *
  go_wp2_with fail
  refine (eqNums_yes (NumsAt.list (unhide HG)) (NumsAt.list (unhide HU))).mono ?_
  rintro e w6 ⟨rfl, hb⟩
  replace ka := hide ((unhide ka).below hb (unhide ka).lt)
  replace HU := hide (RecAt.later (unhide HU) hb)
  replace HX := hide ((unhide HX).below hb)
  replace kx := hide ((unhide kx).below hb (unhide kx).lt)
  replace HG := hide (RecAt.later (unhide HG) hb)
  replace BB := hide ((unhide BB).trans (hb.mono (unhide BB).size))
  have hsz6 : xb + 1 ≤ w6.heap.size := Nat.le_trans hsz5 hb.size
  clear hb hsz5
  have c0 := (unhide ka).cell (i := 0) (v := .slice a0 m.rooms.length p0) rfl
  have c1 := (unhide ka).cell (i := 1) (v := .slice a1 m.guilds.length p1) rfl
  have c2 := (unhide ka).cell (i := 2) (v := .slice a2 m.smiths.length p2) rfl
  have c3 := (unhide ka).cell (i := 3) (v := .slice a3 m.desks.length p3) rfl
  have c4 := (unhide ka).cell (i := 4) (v := .slice a4 m.paces.length p4) rfl
  have c5 := (unhide ka).cell (i := 5) (v := .int .i64 m.now) rfl
  have x0 := (unhide kx).cell (i := 0) (v := .slice d0 m.rooms.length r0) rfl
  have x1 := (unhide kx).cell (i := 1) (v := .slice d1 m.guilds.length r1) rfl
  have x2 := (unhide kx).cell (i := 2) (v := .slice d2 m.smiths.length r2) rfl
  have x3 := (unhide kx).cell (i := 3) (v := .slice d3 m.desks.length r3) rfl
  have x4 := (unhide kx).cell (i := 4) (v := .slice d4 m.paces.length r4) rfl
  have x5 := (unhide kx).cell (i := 5) (v := .int .i64 m.now) rfl
  have V6 := hide ((unhide Hv).below (unhide BB))
  go_wp2_with fail
  go_upto_region 10 with fail
  go_cut [35] (fun s wc => s = .bool false ∧ Below w6.heap.size w6 wc)
  case first =>
    go_region_with (first
      | (go_at_call 46; refine (toSmithy_any (m := m) ?_ (unhide Hs)).mono ?_; exact (unhide V6).below (Below.refl _ _).drew; rintro e w7 ⟨t0, t1, t2, t3, t4, rfl, ho, hb⟩; have k7 := ho.smy; obtain ⟨f0, j0, rfl, _, _⟩ := IsRooms.shape k7.rooms; obtain ⟨f1, j1, rfl, _, _⟩ := IsRec.shape k7.guilds; obtain ⟨f2, j2, rfl, _, _⟩ := IsRec.shape k7.smiths; obtain ⟨f3, j3, rfl, _, _⟩ := IsRec.shape k7.desks; obtain ⟨f4, j4, rfl, _, _⟩ := IsRec.shape k7.paces; have K7 := hide k7; have Hb7 : Hid (Below w6.heap.size w6 w7) := hide ⟨hb.os, hb.tape, hb.output, hb.size, hb.block⟩; have kx7 := (unhide kx).below (unhide Hb7) (unhide kx).lt; have y0 := kx7.cell (i := 0) (v := .slice d0 m.rooms.length r0) rfl; have y1 := kx7.cell (i := 1) (v := .slice d1 m.guilds.length r1) rfl; have y2 := kx7.cell (i := 2) (v := .slice d2 m.smiths.length r2) rfl; have y3 := kx7.cell (i := 3) (v := .slice d3 m.desks.length r3) rfl; have y4 := kx7.cell (i := 4) (v := .slice d4 m.paces.length r4) rfl; have y5 := kx7.cell (i := 5) (v := .int .i64 m.now) rfl; clear k7 ho hb kx7)
      | (go_at_call 47; refine (eqSmithy_yes (m := m) ?_ ?_).mono ?_; exact ((unhide HX).below (unhide Hb7)).smy; exact unhide K7; rintro e w8 ⟨rfl, hb⟩; have Hb8 := hide hb; clear hb))
    all_goals
      go_wp2_with fail
      go_meet
      exact ⟨rfl, (unhide Hb7).trans ((unhide Hb8).mono (unhide Hb7).size)⟩
  case rest =>
    obtain ⟨rfl, hb⟩ := hcut
    obtain ⟨w8, rfl⟩ : ∃ x, x = wc := ⟨wc, rfl⟩
    clear c0 c1 c2 c3 c4 c5
    clear x0 x1 x2 x3 x4 x5
    replace ka := hide ((unhide ka).below hb (unhide ka).lt)
    replace HU := hide (RecAt.later (unhide HU) hb)
    replace HX := hide ((unhide HX).below hb)
    replace kx := hide ((unhide kx).below hb (unhide kx).lt)
    replace HG := hide (RecAt.later (unhide HG) hb)
    replace BB := hide ((unhide BB).trans (hb.mono (unhide BB).size))
    have hsz8 : xb + 1 ≤ w8.heap.size := Nat.le_trans hsz6 hb.size
    clear hb hsz6 V6
    have x0 := (unhide kx).cell (i := 0) (v := .slice d0 m.rooms.length r0) rfl
    have x1 := (unhide kx).cell (i := 1) (v := .slice d1 m.guilds.length r1) rfl
    have x2 := (unhide kx).cell (i := 2) (v := .slice d2 m.smiths.length r2) rfl
    have x3 := (unhide kx).cell (i := 3) (v := .slice d3 m.desks.length r3) rfl
    have x4 := (unhide kx).cell (i := 4) (v := .slice d4 m.paces.length r4) rfl
    have x5 := (unhide kx).cell (i := 5) (v := .int .i64 m.now) rfl
    go_wp2_with fail
    refine (markSmithy_any 1 (unhide HX) (unhide Hs) (by omega) (by omega) (by omega)).mono ?_
    rintro e w9 ⟨rfl, _, hon⟩
    clear x0 x1 x2 x3 x4 x5
    have hen := endM_bd (unhide Hs) (unhide HX).rooms
    generalize endM 1 m xq = em at *
    have hsz9 : xb + 1 ≤ w9.heap.size := Nat.le_trans hsz8 hon.size
    have hwle := (unhide BB).size
    replace HU := hide (RecAt.same (unhide HU) fun k e => hon.at (RecAt.lt (unhide HU) e).2 fun e9 => by have h1 := unhide LU k e; have h2 := unhide LX k e9; omega)
    replace HG := hide (RecAt.same (unhide HG) fun k e => hon.at (RecAt.lt (unhide HG) e).2 fun e9 => by have h1 := unhide LG k e; have h2 := unhide LX k e9; omega)
    replace ka := hide ((unhide ka).same (hon.at (unhide ka).lt fun e9 => by have h2 := unhide LX _ e9; omega))
    replace BB := hide ((unhide BB).trans (hon.below hwle (fun k e => by have h2 := unhide LX k e; omega)))
    clear hon hsz8 kx HX hwle
    have hk0 : ¬ em < 0 := by omega
    go_wp2_with fail
    refine (eqNums_yes (NumsAt.list (unhide HG)) (NumsAt.list (unhide HU))).mono ?_
    rintro e w10 ⟨rfl, hb⟩
    replace ka := hide ((unhide ka).below hb (unhide ka).lt)
    replace HU := hide (RecAt.later (unhide HU) hb)
    replace HG := hide (RecAt.later (unhide HG) hb)
    replace BB := hide ((unhide BB).trans (hb.mono (unhide BB).size))
    have hszA : xb + 1 ≤ w10.heap.size := Nat.le_trans hsz9 hb.size
    clear hb hsz9
    go_wp2_with fail
    refine (markNums_any 1 (unhide HG) (by omega) (by omega) (by omega)).mono ?_
    rintro e w11 ⟨rfl, hgm, hg⟩
    have hszB : xb + 1 ≤ w11.heap.size := Nat.le_trans hszA hg.size
    have hwle := (unhide BB).size
    replace HU := hide (RecAt.grown (unhide HU) hg (fun k e e2 => by have h1 := unhide LU k e; have h2 := unhide LG k e2; omega))
    replace ka := hide ((unhide ka).same (hg.block _ (unhide ka).lt (fun e9 => by have h2 := unhide LG _ e9.symm; omega)))
    replace BB := hide ((unhide BB).trans ((Below.refl _ _).grown hg hwle (fun k e => by have h2 := unhide LG k e; omega)))
    replace HG := hide hgm
    clear hgm hg hszA hwle
    go_wp2_with fail
    refine (heldNums_yes 1 L.length (unhide HG) (by omega) (by omega) (by omega)).mono ?_
    rintro e w12 ⟨rfl, hw12⟩
    subst w12
    have hnn : ¬ (1 : Int) + (L.length : Int) < 0 := by omega
    have c0 := (unhide ka).cell (i := 0) (v := .slice a0 m.rooms.length p0) rfl
    have c1 := (unhide ka).cell (i := 1) (v := .slice a1 m.guilds.length p1) rfl
    have c2 := (unhide ka).cell (i := 2) (v := .slice a2 m.smiths.length p2) rfl
    have c3 := (unhide ka).cell (i := 3) (v := .slice a3 m.desks.length p3) rfl
    have c4 := (unhide ka).cell (i := 4) (v := .slice a4 m.paces.length p4) rfl
    have c5 := (unhide ka).cell (i := 5) (v := .int .i64 m.now) rfl
    go_wp2_with fail
    refine (toSmithy_any ((unhide Hv).below (unhide BB)) (unhide Hs)).mono ?_
    rintro e w13 ⟨s0, s1, s2, s3, s4, rfl, ho, hb⟩
    clear c0 c1 c2 c3 c4 c5
    have k13 := ho.smy
    obtain ⟨f0, j0, rfl, _, _⟩ := IsRooms.shape k13.rooms
    obtain ⟨f1, j1, rfl, _, _⟩ := IsRec.shape k13.guilds
    obtain ⟨f2, j2, rfl, _, _⟩ := IsRec.shape k13.smiths
    obtain ⟨f3, j3, rfl, _, _⟩ := IsRec.shape k13.desks
    obtain ⟨f4, j4, rfl, _, _⟩ := IsRec.shape k13.paces
    have K13 := hide k13
    clear k13 ho
    replace ka := hide ((unhide ka).below hb (unhide ka).lt)
    replace HU := hide (RecAt.later (unhide HU) hb)
    replace HG := hide (RecAt.later (unhide HG) hb)
    replace BB := hide ((unhide BB).trans (hb.mono (unhide BB).size))
    have hszC : xb + 1 ≤ w13.heap.size := Nat.le_trans hszB hb.size
    clear hb hszB
    go_wp2_with fail
    refine (unhide HI1 _ _ _ _ _ _ (unhide K13)).mono ?_
    rintro e w14 ⟨v9, rfl, ho9, hb⟩
    obtain ⟨ha9, hc9, rfl⟩ := RecAt.shape ho9
    replace ka := hide ((unhide ka).below hb (unhide ka).lt)
    replace HU := hide (RecAt.later (unhide HU) hb)
    replace HG := hide (RecAt.later (unhide HG) hb)
    replace BB := hide ((unhide BB).trans (hb.mono (unhide BB).size))
    have HH := hide (NumsAt.list ho9)
    clear hb ho9 hszC
    go_wp2_with fail
    refine (eqNums_yes (unhide HH) (NumsAt.list (unhide HU))).mono ?_
    rintro e w15 ⟨rfl, hb⟩
    replace ka := hide ((unhide ka).below hb (unhide ka).lt)
    replace HU := hide (RecAt.later (unhide HU) hb)
    replace HG := hide (RecAt.later (unhide HG) hb)
    replace BB := hide ((unhide BB).trans (hb.mono (unhide BB).size))
    clear hb HH
    go_wp2_with fail
    refine (heldNums_yes 1 L.length (unhide HG) (by omega) (by omega) (by omega)).mono ?_
    rintro e w16 ⟨rfl, hw16⟩
    subst w16
    go_wp2_with fail
    go_ret
    exact ⟨rfl, unhide BB⟩

theorem fitting_few (m : SmyV) (who : Int) : (fittingOfV m who).length ≤ 1000 := by
  unfold fittingOfV
  split
  · rename_i h
    simp only [Bool.and_eq_true] at h
    have := (smy_loose h.1).sane.eight
    have := fitTo_len m who m.desks.length
    unfold fittingL
    omega
  · simp
theorem walkFnExactFitting (v0 v1 v2 v3 v4 : Value) (m : SmyV) (who : Int) (w : World) (h : Smy w v0 v1 v2 v3 v4 m) :
    Calls Tryz.prog 7 #[.agg #[v0, v1, v2, v3, v4, .int .i64 m.now], .int .i64 who] w fun e w' => e = .returned (.bool true) ∧ Below w.heap.size w w' := walkFnExactFitting_of (fun _ _ _ _ _ _ _ _ h => specFitting_any rfl h) (fun _ _ _ _ _ _ _ _ h => implFitting_any rfl h) fitting_few v0 v1 v2 v3 v4 m who w h

end Go.Proofs.YtaegckehjlkaaaaGreat

/- The walk of the exact law on Chosen. Condition: the smithy can be read. -/
namespace Go.Proofs.YtaegckehjlkaaaaGreat
open Go.ChangeShapes Go.WideShapes Go.ChangeAt Go.RowKit Go.Sort
set_option linter.unusedVariables false
set_option linter.unusedSimpArgs false
set_option maxRecDepth 100000

set_option maxRecDepth 100000 in
set_option maxHeartbeats 8000000 in
theorem walkFnExactChosen (v0 v1 v2 v3 v4 : Value) (m : SmyV) (who : Int) (w : World) (h : Smy w v0 v1 v2 v3 v4 m) :
    Calls Tryz.prog 9 #[.agg #[v0, v1, v2, v3, v4, .int .i64 m.now], .int .i64 who] w fun e w' => e = .returned (.bool true) ∧ Below w.heap.size w w' := by
  obtain ⟨q, hq⟩ : ∃ q, chosenOfV m who = q := ⟨_, rfl⟩
  have Hq := hide hq
  clear hq
  have Hv := hide h
  obtain ⟨a0, p0, rfl, _, _⟩ := IsRooms.shape h.rooms
  obtain ⟨a1, p1, rfl, _, _⟩ := IsRec.shape h.guilds
  obtain ⟨a2, p2, rfl, _, _⟩ := IsRec.shape h.smiths
  obtain ⟨a3, p3, rfl, _, _⟩ := IsRec.shape h.desks
  obtain ⟨a4, p4, rfl, _, _⟩ := IsRec.shape h.paces
  clear h
  go_enter Tryz.func9, Tryz.ntmps9
  go_wp2_with fail
  refine (szSmithy_any ((unhide Hv).alloc _)).mono ?_
  rintro e w1 ⟨x, rfl, hx, hb⟩
  have ka : Hid (Blk w1 w.heap.size 69 #[.slice a0 m.rooms.length p0, .slice a1 m.guilds.length p1, .slice a2 m.smiths.length p2, .slice a3 m.desks.length p3, .slice a4 m.paces.length p4, .int .i64 m.now]) := hide ((Blk.new w _ _).below hb (by simp))
  have BB : Hid (Below w.heap.size w w1) := hide (((Below.refl _ _).alloc (Nat.le_refl _) _).trans (hb.mono (by simp)))
  have Hx := hide hx
  clear hx hb
  by_cases hx0 : x < 0
  · go_wp2_with fail
    go_ret
    exact ⟨rfl, unhide BB⟩
  have Hs := hide (unhide Hx (by omega))
  clear Hx
  have c0 := (unhide ka).cell (i := 0) (v := .slice a0 m.rooms.length p0) rfl
  have c1 := (unhide ka).cell (i := 1) (v := .slice a1 m.guilds.length p1) rfl
  have c2 := (unhide ka).cell (i := 2) (v := .slice a2 m.smiths.length p2) rfl
  have c3 := (unhide ka).cell (i := 3) (v := .slice a3 m.desks.length p3) rfl
  have c4 := (unhide ka).cell (i := 4) (v := .slice a4 m.paces.length p4) rfl
  have c5 := (unhide ka).cell (i := 5) (v := .int .i64 m.now) rfl
  go_wp2_with fail
  refine (toSmithy_any ((unhide Hv).below (unhide BB)) (unhide Hs)).mono ?_
  rintro e w2 ⟨u0, u1, u2, u3, u4, rfl, ho, hb⟩
  clear c0 c1 c2 c3 c4 c5
  have k2 := ho.smy
  obtain ⟨b0, q0, rfl, _, _⟩ := IsRooms.shape k2.rooms
  obtain ⟨b1, q1, rfl, _, _⟩ := IsRec.shape k2.guilds
  obtain ⟨b2, q2, rfl, _, _⟩ := IsRec.shape k2.smiths
  obtain ⟨b3, q3, rfl, _, _⟩ := IsRec.shape k2.desks
  obtain ⟨b4, q4, rfl, _, _⟩ := IsRec.shape k2.paces
  have K2 := hide k2
  clear k2 ho
  replace ka := hide ((unhide ka).below hb (unhide ka).lt)
  replace BB := hide ((unhide BB).trans (hb.mono (unhide BB).size))
  clear hb
  go_wp2_with fail
  refine (specChosen_any (unhide Hq) (unhide K2)).mono ?_
  rintro e w3 ⟨rfl, hb⟩
  replace ka := hide ((unhide ka).below hb (unhide ka).lt)
  replace BB := hide ((unhide BB).trans (hb.mono (unhide BB).size))
  clear hb K2
  have c0 := (unhide ka).cell (i := 0) (v := .slice a0 m.rooms.length p0) rfl
  have c1 := (unhide ka).cell (i := 1) (v := .slice a1 m.guilds.length p1) rfl
  have c2 := (unhide ka).cell (i := 2) (v := .slice a2 m.smiths.length p2) rfl
  have c3 := (unhide ka).cell (i := 3) (v := .slice a3 m.desks.length p3) rfl
  have c4 := (unhide ka).cell (i := 4) (v := .slice a4 m.paces.length p4) rfl
  have c5 := (unhide ka).cell (i := 5) (v := .int .i64 m.now) rfl
  go_wp2_with fail
  refine (toSmithy_any ((unhide Hv).below (unhide BB)) (unhide Hs)).mono ?_
  rintro e w4 ⟨u0, u1, u2, u3, u4, rfl, ho, hb⟩
  clear c0 c1 c2 c3 c4 c5
  have k4 := ho.smy
  obtain ⟨d0, r0, rfl, _, _⟩ := IsRooms.shape k4.rooms
  obtain ⟨d1, r1, rfl, _, _⟩ := IsRec.shape k4.guilds
  obtain ⟨d2, r2, rfl, _, _⟩ := IsRec.shape k4.smiths
  obtain ⟨d3, r3, rfl, _, _⟩ := IsRec.shape k4.desks
  obtain ⟨d4, r4, rfl, _, _⟩ := IsRec.shape k4.paces
  have K4 := hide (k4.alloc (.cells #[.slice d0 m.rooms.length r0, .slice d1 m.guilds.length r1, .slice d2 m.smiths.length r2, .slice d3 m.desks.length r3, .slice d4 m.paces.length r4, .int .i64 m.now] 32))
  clear k4 ho
  replace ka := hide ((unhide ka).below hb (unhide ka).lt)
  replace BB := hide ((unhide BB).trans (hb.mono (unhide BB).size))
  clear hb
  go_wp2_with fail
  replace ka := hide ((unhide ka).alloc (.cells #[.slice d0 m.rooms.length r0, .slice d1 m.guilds.length r1, .slice d2 m.smiths.length r2, .slice d3 m.desks.length r3, .slice d4 m.paces.length r4, .int .i64 m.now] 32))
  replace BB := hide ((unhide BB).alloc (unhide BB).size (.cells #[.slice d0 m.rooms.length r0, .slice d1 m.guilds.length r1, .slice d2 m.smiths.length r2, .slice d3 m.desks.length r3, .slice d4 m.paces.length r4, .int .i64 m.now] 32))
  have kx : Hid (Blk (w4.alloc (.cells #[.slice d0 m.rooms.length r0, .slice d1 m.guilds.length r1, .slice d2 m.smiths.length r2, .slice d3 m.desks.length r3, .slice d4 m.paces.length r4, .int .i64 m.now] 32)) w4.heap.size 32 #[.slice d0 m.rooms.length r0, .slice d1 m.guilds.length r1, .slice d2 m.smiths.length r2, .slice d3 m.desks.length r3, .slice d4 m.paces.length r4, .int .i64 m.now]) := hide (Blk.new _ _ _)
  generalize w4.alloc (.cells #[.slice d0 m.rooms.length r0, .slice d1 m.guilds.length r1, .slice d2 m.smiths.length r2, .slice d3 m.desks.length r3, .slice d4 m.paces.length r4, .int .i64 m.now] 32) = W at *
  generalize w4.heap.size = xb at *
  refine (implChosen_any (unhide Hq) (unhide K4)).mono ?_
  rintro e w5 ⟨rfl, hb⟩
  replace K4 := hide ((unhide K4).below hb)
  replace ka := hide ((unhide ka).below hb (unhide ka).lt)
  replace kx := hide ((unhide kx).below hb (unhide kx).lt)
  replace BB := hide ((unhide BB).trans (hb.mono (unhide BB).size))
  clear hb
  have V5 := hide ((unhide Hv).below (unhide BB))
  have c0 := (unhide ka).cell (i := 0) (v := .slice a0 m.rooms.length p0) rfl
  have c1 := (unhide ka).cell (i := 1) (v := .slice a1 m.guilds.length p1) rfl
  have c2 := (unhide ka).cell (i := 2) (v := .slice a2 m.smiths.length p2) rfl
  have c3 := (unhide ka).cell (i := 3) (v := .slice a3 m.desks.length p3) rfl
  have c4 := (unhide ka).cell (i := 4) (v := .slice a4 m.paces.length p4) rfl
  have c5 := (unhide ka).cell (i := 5) (v := .int .i64 m.now) rfl
  have x0 := (unhide kx).cell (i := 0) (v := .slice d0 m.rooms.length r0) rfl
  have x1 := (unhide kx).cell (i := 1) (v := .slice d1 m.guilds.length r1) rfl
  have x2 := (unhide kx).cell (i := 2) (v := .slice d2 m.smiths.length r2) rfl
  have x3 := (unhide kx).cell (i := 3) (v := .slice d3 m.desks.length r3) rfl
  have x4 := (unhide kx).cell (i := 4) (v := .slice d4 m.paces.length r4) rfl
  have x5 := (unhide kx).cell (i := 5) (v := .int .i64 m.now) rfl
  go_wp2_with fail
  go_region_with (first
    | (go_at_call 46; refine (toSmithy_any (m := m) ?_ (unhide Hs)).mono ?_; exact (unhide V5).below (Below.refl _ _).drew; rintro e w6 ⟨u0, u1, u2, u3, u4, rfl, ho, hb⟩; have k6 := ho.smy; obtain ⟨f0, t0, rfl, _, _⟩ := IsRooms.shape k6.rooms; obtain ⟨f1, t1, rfl, _, _⟩ := IsRec.shape k6.guilds; obtain ⟨f2, t2, rfl, _, _⟩ := IsRec.shape k6.smiths; obtain ⟨f3, t3, rfl, _, _⟩ := IsRec.shape k6.desks; obtain ⟨f4, t4, rfl, _, _⟩ := IsRec.shape k6.paces; have K6 := hide k6; have Hb6 : Hid (Below w5.heap.size w5 w6) := hide ⟨hb.os, hb.tape, hb.output, hb.size, hb.block⟩; have kx6 := (unhide kx).below (unhide Hb6) (unhide kx).lt; have y0 := kx6.cell (i := 0) (v := .slice d0 m.rooms.length r0) rfl; have y1 := kx6.cell (i := 1) (v := .slice d1 m.guilds.length r1) rfl; have y2 := kx6.cell (i := 2) (v := .slice d2 m.smiths.length r2) rfl; have y3 := kx6.cell (i := 3) (v := .slice d3 m.desks.length r3) rfl; have y4 := kx6.cell (i := 4) (v := .slice d4 m.paces.length r4) rfl; have y5 := kx6.cell (i := 5) (v := .int .i64 m.now) rfl; clear k6 ho hb kx6)
    | (go_at_call 47; refine (eqSmithy_yes (m := m) ?_ ?_).mono ?_; exact (unhide K4).below (unhide Hb6); exact unhide K6; rintro e w7 ⟨rfl, hb⟩; have Hb7 := hide hb; clear hb))
  all_goals
    go_wp2_with fail
    go_ret
    exact ⟨rfl, (unhide BB).trans (((unhide Hb6).trans ((unhide Hb7).mono (unhide Hb6).size)).mono (unhide BB).size)⟩

end Go.Proofs.YtaegckehjlkaaaaGreat

