/- What the proof rests on, part 16: lists and numbers, how they lie in memory, and contracts of the calls. No condition but those that a theorem names. -/
import Derived.Test.YtaegckehjlkaaaaGreatXe01
import Derived.Test.YtaegckehjlkaaaaGreatXe02
import Derived.Test.YtaegckehjlkaaaaGreatXe03
import Derived.Test.YtaegckehjlkaaaaGreatXe04
import Derived.Test.YtaegckehjlkaaaaGreatXe05
import Derived.Test.YtaegckehjlkaaaaGreatXe06
import Derived.Test.YtaegckehjlkaaaaGreatXe07
import Derived.Test.YtaegckehjlkaaaaGreatXe08
import Derived.Test.YtaegckehjlkaaaaGreatXe09
import Derived.Test.YtaegckehjlkaaaaGreatXe10
import Derived.Test.YtaegckehjlkaaaaGreatXe11
import Derived.Test.YtaegckehjlkaaaaGreatXe12
import Derived.Test.YtaegckehjlkaaaaGreatXe13
import Derived.Test.YtaegckehjlkaaaaGreatXe14
import Derived.Test.YtaegckehjlkaaaaGreatXe15
import Derived.Deep.RegionWith
import Derived.Deep.DeepCutAuto
import Derived.Lib.SmallJoins
import Derived.Deep.SlicePairs
import Derived.WalkMore
import Derived.Below
import Derived.ChangeKeysEq
import Derived.Laws.StructEq
import Derived.WalkKit
import Derived.ProofKit
import Derived.OpenShut
import Derived.Outline
import Derived.Lib.QuietBelow
import Derived.RangeFuncCalls
import Derived.Shelf.RegionOpen
import Derived.Deep.RegionHeld3
import Derived.Deep.DrawnRows
import Derived.BigRegion
import Derived.Deep.RegionLawGrows
import Derived.Deep.LoopGhost
import Derived.Deep.QuietTactic
import Derived.BigQuiet
import Derived.Laws.OwnMore
import Derived.OwnWalk
import Derived.Maps.AppendAt
import Derived.RangeFuncNested
import Derived.RangeFuncBound
import Derived.RangeFuncLeaves
import Derived.RangeFuncBox
import Derived.Shelf.Abstract
import Derived.OwnWalkIn
import Derived.TacticsInMore
import Derived.LoopNIn
import Derived.LoopIn
import Derived.Deep.Fields
import Derived.Deep.Slices
import Derived.OrdersHeld
import Derived.Deep.RegionHeldLaw
import Derived.Laws.CopyRow
/- The walk of the exact law on MayWork. Condition: the smithy can be read. -/
namespace Go.Proofs.YtaegckehjlkaaaaGreat
open Go.ChangeShapes Go.WideShapes Go.ChangeAt Go.RowKit Go.Sort
set_option linter.unusedVariables false
set_option linter.unusedSimpArgs false
set_option maxRecDepth 100000

set_option maxRecDepth 100000 in
set_option maxHeartbeats 8000000 in
theorem walkFnExactMayWork (v0 v1 v2 v3 v4 : Value) (m : SmyV) (who : Int) (bench : Int) (w : World) (h : Smy w v0 v1 v2 v3 v4 m) :
    Calls Tryz.prog 6 #[.agg #[v0, v1, v2, v3, v4, .int .i64 m.now], .int .i64 who, .int .i64 bench] w fun e w' => e = .returned (.bool true) ∧ Below w.heap.size w w' := by
  obtain ⟨q, hq⟩ : ∃ q, mayWorkV m who bench = q := ⟨_, rfl⟩
  have Hq := hide hq
  clear hq
  have Hv := hide h
  obtain ⟨a0, p0, rfl, _, _⟩ := IsRooms.shape h.rooms
  obtain ⟨a1, p1, rfl, _, _⟩ := IsRec.shape h.guilds
  obtain ⟨a2, p2, rfl, _, _⟩ := IsRec.shape h.smiths
  obtain ⟨a3, p3, rfl, _, _⟩ := IsRec.shape h.desks
  obtain ⟨a4, p4, rfl, _, _⟩ := IsRec.shape h.paces
  clear h
  go_enter Tryz.func6, Tryz.ntmps6
  go_wp2_with fail
  refine (szSmithy_any ((unhide Hv).alloc _)).mono ?_
  rintro e w1 ⟨x, rfl, hx, hb⟩
  have ka : Hid (Blk w1 w.heap.size 69 #[.slice a0 m.rooms.length p0, .slice a1 m.guilds.length p1, .slice a2 m.smiths.length p2, .slice a3 m.desks.length p3, .slice a4 m.paces.length p4, .int .i64 m.now]) := hide ((Blk.new w _ _).below hb (by simp))
  have BB : Hid (Below w.heap.size w w1) := hide (((Below.refl _ _).alloc (Nat.le_refl _) _).trans (hb.mono (by simp)))
  have Hx := hide hx
  clear hx hb
  by_cases hx0 : x < 0
  · go_wp2_with fail
    go_ret
    exact ⟨rfl, unhide BB⟩
  have Hs := hide (unhide Hx (by omega))
  clear Hx
  have c0 := (unhide ka).cell (i := 0) (v := .slice a0 m.rooms.length p0) rfl
  have c1 := (unhide ka).cell (i := 1) (v := .slice a1 m.guilds.length p1) rfl
  have c2 := (unhide ka).cell (i := 2) (v := .slice a2 m.smiths.length p2) rfl
  have c3 := (unhide ka).cell (i := 3) (v := .slice a3 m.desks.length p3) rfl
  have c4 := (unhide ka).cell (i := 4) (v := .slice a4 m.paces.length p4) rfl
  have c5 := (unhide ka).cell (i := 5) (v := .int .i64 m.now) rfl
  go_wp2_with fail
  refine (toSmithy_any ((unhide Hv).below (unhide BB)) (unhide Hs)).mono ?_
  rintro e w2 ⟨u0, u1, u2, u3, u4, rfl, ho, hb⟩
  clear c0 c1 c2 c3 c4 c5
  have k2 := ho.smy
  obtain ⟨b0, q0, rfl, _, _⟩ := IsRooms.shape k2.rooms
  obtain ⟨b1, q1, rfl, _, _⟩ := IsRec.shape k2.guilds
  obtain ⟨b2, q2, rfl, _, _⟩ := IsRec.shape k2.smiths
  obtain ⟨b3, q3, rfl, _, _⟩ := IsRec.shape k2.desks
  obtain ⟨b4, q4, rfl, _, _⟩ := IsRec.shape k2.paces
  have K2 := hide k2
  clear k2 ho
  replace ka := hide ((unhide ka).below hb (unhide ka).lt)
  replace BB := hide ((unhide BB).trans (hb.mono (unhide BB).size))
  clear hb
  go_wp2_with fail
  refine (specMayWork_any (unhide Hq) (unhide K2)).mono ?_
  rintro e w3 ⟨rfl, hb⟩
  replace ka := hide ((unhide ka).below hb (unhide ka).lt)
  replace BB := hide ((unhide BB).trans (hb.mono (unhide BB).size))
  clear hb K2
  have c0 := (unhide ka).cell (i := 0) (v := .slice a0 m.rooms.length p0) rfl
  have c1 := (unhide ka).cell (i := 1) (v := .slice a1 m.guilds.length p1) rfl
  have c2 := (unhide ka).cell (i := 2) (v := .slice a2 m.smiths.length p2) rfl
  have c3 := (unhide ka).cell (i := 3) (v := .slice a3 m.desks.length p3) rfl
  have c4 := (unhide ka).cell (i := 4) (v := .slice a4 m.paces.length p4) rfl
  have c5 := (unhide ka).cell (i := 5) (v := .int .i64 m.now) rfl
  go_wp2_with fail
  refine (toSmithy_any ((unhide Hv).below (unhide BB)) (unhide Hs)).mono ?_
  rintro e w4 ⟨u0, u1, u2, u3, u4, rfl, ho, hb⟩
  clear c0 c1 c2 c3 c4 c5
  have k4 := ho.smy
  obtain ⟨d0, r0, rfl, _, _⟩ := IsRooms.shape k4.rooms
  obtain ⟨d1, r1, rfl, _, _⟩ := IsRec.shape k4.guilds
  obtain ⟨d2, r2, rfl, _, _⟩ := IsRec.shape k4.smiths
  obtain ⟨d3, r3, rfl, _, _⟩ := IsRec.shape k4.desks
  obtain ⟨d4, r4, rfl, _, _⟩ := IsRec.shape k4.paces
  have K4 := hide (k4.alloc (.cells #[.slice d0 m.rooms.length r0, .slice d1 m.guilds.length r1, .slice d2 m.smiths.length r2, .slice d3 m.desks.length r3, .slice d4 m.paces.length r4, .int .i64 m.now] 32))
  clear k4 ho
  replace ka := hide ((unhide ka).below hb (unhide ka).lt)
  replace BB := hide ((unhide BB).trans (hb.mono (unhide BB).size))
  clear hb
  go_wp2_with fail
  replace ka := hide ((unhide ka).alloc (.cells #[.slice d0 m.rooms.length r0, .slice d1 m.guilds.length r1, .slice d2 m.smiths.length r2, .slice d3 m.desks.length r3, .slice d4 m.paces.length r4, .int .i64 m.now] 32))
  replace BB := hide ((unhide BB).alloc (unhide BB).size (.cells #[.slice d0 m.rooms.length r0, .slice d1 m.guilds.length r1, .slice d2 m.smiths.length r2, .slice d3 m.desks.length r3, .slice d4 m.paces.length r4, .int .i64 m.now] 32))
  have kx : Hid (Blk (w4.alloc (.cells #[.slice d0 m.rooms.length r0, .slice d1 m.guilds.length r1, .slice d2 m.smiths.length r2, .slice d3 m.desks.length r3, .slice d4 m.paces.length r4, .int .i64 m.now] 32)) w4.heap.size 32 #[.slice d0 m.rooms.length r0, .slice d1 m.guilds.length r1, .slice d2 m.smiths.length r2, .slice d3 m.desks.length r3, .slice d4 m.paces.length r4, .int .i64 m.now]) := hide (Blk.new _ _ _)
  generalize w4.alloc (.cells #[.slice d0 m.rooms.length r0, .slice d1 m.guilds.length r1, .slice d2 m.smiths.length r2, .slice d3 m.desks.length r3, .slice d4 m.paces.length r4, .int .i64 m.now] 32) = W at *
  generalize w4.heap.size = xb at *
  refine (implMayWork_any (unhide Hq) (unhide K4)).mono ?_
  rintro e w5 ⟨rfl, hb⟩
  replace K4 := hide ((unhide K4).below hb)
  replace ka := hide ((unhide ka).below hb (unhide ka).lt)
  replace kx := hide ((unhide kx).below hb (unhide kx).lt)
  replace BB := hide ((unhide BB).trans (hb.mono (unhide BB).size))
  clear hb
  have V5 := hide ((unhide Hv).below (unhide BB))
  have c0 := (unhide ka).cell (i := 0) (v := .slice a0 m.rooms.length p0) rfl
  have c1 := (unhide ka).cell (i := 1) (v := .slice a1 m.guilds.length p1) rfl
  have c2 := (unhide ka).cell (i := 2) (v := .slice a2 m.smiths.length p2) rfl
  have c3 := (unhide ka).cell (i := 3) (v := .slice a3 m.desks.length p3) rfl
  have c4 := (unhide ka).cell (i := 4) (v := .slice a4 m.paces.length p4) rfl
  have c5 := (unhide ka).cell (i := 5) (v := .int .i64 m.now) rfl
  have x0 := (unhide kx).cell (i := 0) (v := .slice d0 m.rooms.length r0) rfl
  have x1 := (unhide kx).cell (i := 1) (v := .slice d1 m.guilds.length r1) rfl
  have x2 := (unhide kx).cell (i := 2) (v := .slice d2 m.smiths.length r2) rfl
  have x3 := (unhide kx).cell (i := 3) (v := .slice d3 m.desks.length r3) rfl
  have x4 := (unhide kx).cell (i := 4) (v := .slice d4 m.paces.length r4) rfl
  have x5 := (unhide kx).cell (i := 5) (v := .int .i64 m.now) rfl
  cases q
  all_goals
    go_wp2_with fail
    go_region_with (first
      | (go_at_call 46; refine (toSmithy_any (m := m) ?_ (unhide Hs)).mono ?_; exact (unhide V5).below (Below.refl _ _).drew; rintro e w6 ⟨u0, u1, u2, u3, u4, rfl, ho, hb⟩; have k6 := ho.smy; obtain ⟨f0, t0, rfl, _, _⟩ := IsRooms.shape k6.rooms; obtain ⟨f1, t1, rfl, _, _⟩ := IsRec.shape k6.guilds; obtain ⟨f2, t2, rfl, _, _⟩ := IsRec.shape k6.smiths; obtain ⟨f3, t3, rfl, _, _⟩ := IsRec.shape k6.desks; obtain ⟨f4, t4, rfl, _, _⟩ := IsRec.shape k6.paces; have K6 := hide k6; have Hb6 : Hid (Below w5.heap.size w5 w6) := hide ⟨hb.os, hb.tape, hb.output, hb.size, hb.block⟩; have kx6 := (unhide kx).below (unhide Hb6) (unhide kx).lt; have y0 := kx6.cell (i := 0) (v := .slice d0 m.rooms.length r0) rfl; have y1 := kx6.cell (i := 1) (v := .slice d1 m.guilds.length r1) rfl; have y2 := kx6.cell (i := 2) (v := .slice d2 m.smiths.length r2) rfl; have y3 := kx6.cell (i := 3) (v := .slice d3 m.desks.length r3) rfl; have y4 := kx6.cell (i := 4) (v := .slice d4 m.paces.length r4) rfl; have y5 := kx6.cell (i := 5) (v := .int .i64 m.now) rfl; clear k6 ho hb kx6)
      | (go_at_call 47; refine (eqSmithy_yes (m := m) ?_ ?_).mono ?_; exact (unhide K4).below (unhide Hb6); exact unhide K6; rintro e w7 ⟨rfl, hb⟩; have Hb7 := hide hb; clear hb))
    all_goals
      go_wp2_with fail
      go_ret
      exact ⟨rfl, (unhide BB).trans (((unhide Hb6).trans ((unhide Hb7).mono (unhide Hb6).size)).mono (unhide BB).size)⟩

end Go.Proofs.YtaegckehjlkaaaaGreat

/- A room or a hall that is handed in, opened: what it reads as. No condition. -/
namespace Go.Proofs.YtaegckehjlkaaaaGreat
open Go.ChangeShapes Go.WideShapes Go.ChangeAt Go.RowKit Go.Deep
set_option linter.unusedVariables false

theorem addr_two {w : World} {b off i : Nat} {u u' : Value} (h1 : w.cell? ((⟨b, off, none⟩ : Addr).add (i * 2)) = some u) (h2 : w.cell? ((⟨b, off, none⟩ : Addr).add (i * 2 + 1)) = some u') :
    w.cell? ⟨b, off + i * 2, none⟩ = some u ∧ w.cell? ⟨b, off + i * 2 + 1, none⟩ = some u' := by
  by_cases hi : i = 0
  · subst hi
    simp [Addr.add] at h1 h2 ⊢
    exact ⟨h1, h2⟩
  · have h2i : ¬ i * 2 = 0 := by omega
    simp [Addr.add, h2i] at h1 h2 ⊢
    exact ⟨h1, h2⟩

theorem open_paces {H : Type} {enc : TypeId × Value → H} {W : World} {spare : Nat → Bool} {held : Bool} {n : Nat} {v : Value} {y : DataW H × List MemPlace}
    (h : DataW.trod enc Tryz.prog W 0 spare held n 200 [v] = some y) : ∃ ps, IsPaces W v ps := by
  rcases open_slice_pairs Tryz.underlying200 Tryz.underlying263 (by kernel_rfl) rfl rfl (by kernel_rfl) (by kernel_rfl) h with ⟨hv, _⟩ | ⟨a, len, cap, m, n', V0, V1, D0, D1, P0, P1, hv, _, hl, hm, hmm, _, hx⟩
  · cases hv
    exact ⟨[], none, 0, rfl, Nat.le_refl _, by omega, .inl rfl⟩
  · cases hv
    have hlm : len ≤ m := by rw [hmm]; split <;> omega
    obtain ⟨F, hF⟩ := choose_lt (α := Int × Int) (n := len) (p := fun i q => V0 i = .int .i64 q.1 ∧ V1 i = .int .i64 q.2) (fun i hi => by
      obtain ⟨_, _, t0, t1⟩ := hx i (by omega)
      obtain ⟨q0, e0, _⟩ := DataW.trod_int Tryz.underlying2 t0
      obtain ⟨q1, e1, _⟩ := DataW.trod_int Tryz.underlying2 t1
      exact ⟨(q0, q1), by simpa using e0, by simpa using e1⟩)
    have hlen : ((List.range len).map F).length = len := by simp
    refine ⟨(List.range len).map F, some a, cap, by rw [hlen], by rw [hlen]; exact hl, by unfold maxLen at hm; omega, ?_⟩
    by_cases hz : len = 0
    · exact .inl (by simp [hz])
    · have h0 := hx 0 (by omega)
      have sp := World.cell?_spot h0.1
      have hlt := World.block_lt_of_cell? _ _ h0.1
      obtain ⟨b, off, spot⟩ := a
      have hspot : spot = none := by simpa [Addr.add] using sp
      subst hspot
      refine .inr ⟨b, off, rfl, by simpa [Addr.add] using hlt, fun k hk => ?_⟩
      rw [hlen] at hk
      obtain ⟨c0, c1, _, _⟩ := hx k (by omega)
      obtain ⟨e0, e1⟩ := hF k hk
      have hat : paceAt ((List.range len).map F) k = F k := by unfold paceAt; simp [List.getD, hk]
      rw [hat, ← e0, ← e1]
      exact addr_two c0 c1

theorem open_rooms {H : Type} {enc : TypeId × Value → H} {W : World} {spare : Nat → Bool} {held : Bool} {n : Nat} {v : Value} {y : DataW H × List MemPlace}
    (h : DataW.trod enc Tryz.prog W 0 spare held n 62 [v] = some y) : ∃ rs, IsRooms W v rs := by
  rcases open_slice_pairs Tryz.underlying62 Tryz.underlying202 (by kernel_rfl) rfl rfl (by kernel_rfl) (by kernel_rfl) h with ⟨hv, _⟩ | ⟨a, len, cap, m, n', V0, V1, D0, D1, P0, P1, hv, _, hl, hm, hmm, _, hx⟩
  · cases hv
    exact ⟨[], none, 0, rfl, Nat.le_refl _, by omega, .inl rfl⟩
  · cases hv
    have hlm : len ≤ m := by rw [hmm]; split <;> omega
    obtain ⟨F, hF⟩ := choose_lt (α := RoomV) (n := len) (p := fun i q => V0 i = .int .i64 q.1 ∧ IsPaces W (V1 i) q.2) (fun i hi => by
      obtain ⟨_, _, t0, t1⟩ := hx i (by omega)
      obtain ⟨q0, e0, _⟩ := DataW.trod_int Tryz.underlying2 t0
      obtain ⟨ps, e1⟩ := open_paces t1
      exact ⟨(q0, ps), by simpa using e0, e1⟩)
    have hlen : ((List.range len).map F).length = len := by simp
    refine ⟨(List.range len).map F, some a, cap, by rw [hlen], by rw [hlen]; exact hl, by unfold maxLen at hm; omega, ?_⟩
    by_cases hz : len = 0
    · exact .inl (by simp [hz])
    · have h0 := hx 0 (by omega)
      have sp := World.cell?_spot h0.1
      have hlt := World.block_lt_of_cell? _ _ h0.1
      obtain ⟨b, off, spot⟩ := a
      have hspot : spot = none := by simpa [Addr.add] using sp
      subst hspot
      refine .inr ⟨b, off, rfl, by simpa [Addr.add] using hlt, fun k hk => ?_⟩
      rw [hlen] at hk
      obtain ⟨c0, c1, _, _⟩ := hx k (by omega)
      obtain ⟨e0, e1⟩ := hF k hk
      have hat : roomAt ((List.range len).map F) k = F k := by unfold roomAt; simp [List.getD, hk]
      rw [hat, ← e0]
      exact ⟨(addr_two c0 c1).1, V1 k, (addr_two c0 c1).2, e1⟩

end Go.Proofs.YtaegckehjlkaaaaGreat

/- A list of records (Guild), or one, that is handed in, opened: what it reads as. No condition. -/
namespace Go.Proofs.YtaegckehjlkaaaaGreat
open Go.ChangeShapes Go.WideShapes Go.ChangeAt Go.RowKit Go.Deep
set_option linter.unusedVariables false

set_option maxRecDepth 100000 in
theorem trod_guilds {H : Type} {enc : TypeId × Value → H} {W : World} {spare : Nat → Bool} {held : Bool} {n : Nat} {v : Value} {y : DataW H × List MemPlace}
    (h : DataW.trod enc Tryz.prog W 0 spare held n 65 [v] = some y) : ∃ ps, IsGuilds W v ps := by
  refine open_recs (k := 3) (enc := encGuild) Tryz.underlying65 Tryz.underlying156 (by kernel_rfl) rfl (by kernel_rfl) (by omega) ?_ h
  intro cs hl hc
  match cs, hl with
  | [c0, c1, c2], _ =>
    obtain ⟨u0, n0, y0, e0, t0⟩ := hc 0 _ rfl
    obtain ⟨u1, n1, y1, e1, t1⟩ := hc 1 _ rfl
    obtain ⟨u2, n2, y2, e2, t2⟩ := hc 2 _ rfl
    obtain ⟨z0, q0, _⟩ := DataW.trod_int Tryz.underlying2 t0
    obtain ⟨z1, q1, _⟩ := DataW.trod_int Tryz.underlying2 t1
    obtain ⟨z2, q2, _⟩ := DataW.trod_int Tryz.underlying2 t2
    cases e0; cases e1; cases e2; cases q0; cases q1; cases q2
    exact ⟨(z0, z1, z2), rfl⟩
end Go.Proofs.YtaegckehjlkaaaaGreat

/- A list of records (Smith), or one, that is handed in, opened: what it reads as. No condition. -/
namespace Go.Proofs.YtaegckehjlkaaaaGreat
open Go.ChangeShapes Go.WideShapes Go.ChangeAt Go.RowKit Go.Deep
set_option linter.unusedVariables false

set_option maxRecDepth 100000 in
theorem trod_smiths {H : Type} {enc : TypeId × Value → H} {W : World} {spare : Nat → Bool} {held : Bool} {n : Nat} {v : Value} {y : DataW H × List MemPlace}
    (h : DataW.trod enc Tryz.prog W 0 spare held n 66 [v] = some y) : ∃ ps, IsSmiths W v ps := by
  refine open_recs (k := 11) (enc := encSmith) Tryz.underlying66 Tryz.underlying158 (by kernel_rfl) rfl (by kernel_rfl) (by omega) ?_ h
  intro cs hl hc
  match cs, hl with
  | [c0, c1, c2, c3, c4, c5, c6, c7, c8, c9, c10], _ =>
    obtain ⟨u0, n0, y0, e0, t0⟩ := hc 0 _ rfl
    obtain ⟨u1, n1, y1, e1, t1⟩ := hc 1 _ rfl
    obtain ⟨u2, n2, y2, e2, t2⟩ := hc 2 _ rfl
    obtain ⟨u3, n3, y3, e3, t3⟩ := hc 3 _ rfl
    obtain ⟨u4, n4, y4, e4, t4⟩ := hc 4 _ rfl
    obtain ⟨u5, n5, y5, e5, t5⟩ := hc 5 _ rfl
    obtain ⟨u6, n6, y6, e6, t6⟩ := hc 6 _ rfl
    obtain ⟨u7, n7, y7, e7, t7⟩ := hc 7 _ rfl
    obtain ⟨u8, n8, y8, e8, t8⟩ := hc 8 _ rfl
    obtain ⟨u9, n9, y9, e9, t9⟩ := hc 9 _ rfl
    obtain ⟨u10, n10, y10, e10, t10⟩ := hc 10 _ rfl
    obtain ⟨z0, q0, _⟩ := DataW.trod_int Tryz.underlying2 t0
    obtain ⟨z1, q1, _⟩ := DataW.trod_int Tryz.underlying2 t1
    obtain ⟨z2, q2, _⟩ := DataW.trod_int Tryz.underlying2 t2
    obtain ⟨z3, q3, _⟩ := DataW.trod_int Tryz.underlying2 t3
    obtain ⟨z4, q4, _⟩ := DataW.trod_int Tryz.underlying2 t4
    obtain ⟨z5, q5, _⟩ := DataW.trod_int Tryz.underlying2 t5
    obtain ⟨z6, q6, _⟩ := DataW.trod_int Tryz.underlying2 t6
    obtain ⟨z7, q7, _⟩ := DataW.trod_int Tryz.underlying2 t7
    obtain ⟨z8, q8, _⟩ := DataW.trod_int Tryz.underlying2 t8
    obtain ⟨z9, q9, _⟩ := DataW.trod_int Tryz.underlying2 t9
    obtain ⟨z10, q10, _⟩ := DataW.trod_int Tryz.underlying2 t10
    cases e0; cases e1; cases e2; cases e3; cases e4; cases e5; cases e6; cases e7; cases e8; cases e9; cases e10; cases q0; cases q1; cases q2; cases q3; cases q4; cases q5; cases q6; cases q7; cases q8; cases q9; cases q10
    exact ⟨(z0, z1, z2, z3, z4, z5, z6, z7, z8, z9, z10), rfl⟩
end Go.Proofs.YtaegckehjlkaaaaGreat

/- A list of records (Desk), or one, that is handed in, opened: what it reads as. No condition. -/
namespace Go.Proofs.YtaegckehjlkaaaaGreat
open Go.ChangeShapes Go.WideShapes Go.ChangeAt Go.RowKit Go.Deep
set_option linter.unusedVariables false

set_option maxRecDepth 100000 in
theorem trod_desks {H : Type} {enc : TypeId × Value → H} {W : World} {spare : Nat → Bool} {held : Bool} {n : Nat} {v : Value} {y : DataW H × List MemPlace}
    (h : DataW.trod enc Tryz.prog W 0 spare held n 67 [v] = some y) : ∃ ps, IsDesks W v ps := by
  refine open_recs (k := 3) (enc := encDesk) Tryz.underlying67 Tryz.underlying160 (by kernel_rfl) rfl (by kernel_rfl) (by omega) ?_ h
  intro cs hl hc
  match cs, hl with
  | [c0, c1, c2], _ =>
    obtain ⟨u0, n0, y0, e0, t0⟩ := hc 0 _ rfl
    obtain ⟨u1, n1, y1, e1, t1⟩ := hc 1 _ rfl
    obtain ⟨u2, n2, y2, e2, t2⟩ := hc 2 _ rfl
    obtain ⟨z0, q0, _⟩ := DataW.trod_bool Tryz.underlying4 t0
    obtain ⟨z1, q1, _⟩ := DataW.trod_int Tryz.underlying2 t1
    obtain ⟨z2, q2, _⟩ := DataW.trod_int Tryz.underlying2 t2
    cases e0; cases e1; cases e2; cases q0; cases q1; cases q2
    exact ⟨(z0, z1, z2), rfl⟩
end Go.Proofs.YtaegckehjlkaaaaGreat

/- A smithy that is handed in, opened: what it reads as. No condition. -/
namespace Go.Proofs.YtaegckehjlkaaaaGreat
open Go.ChangeShapes Go.WideShapes Go.ChangeAt Go.RowKit Go.Deep
set_option linter.unusedVariables false

set_option maxRecDepth 100000 in
theorem open_smithy {H : Type} {enc : TypeId × Value → H} {W : World} {spare : Nat → Bool} {held : Bool} {r : Reach} {b0 : Nat} {v : Value} {d : DataW H} {p : List MemPlace}
    (hv : Value.okWide Tryz.prog W r b0 69 v) (h : DataW.Trod enc Tryz.prog W 0 spare held 69 v d p) : ∃ v0 v1 v2 v3 v4 m, v = .agg #[v0, v1, v2, v3, v4, .int .i64 m.now] ∧ Smy W v0 v1 v2 v3 v4 m := by
  obtain ⟨cs, rfl, hsz⟩ := okWide_struct Tryz.underlying69 hv
  have h1 : cs.size = 6 := hsz.trans (by kernel_rfl)
  obtain ⟨l⟩ := cs
  match l, h1 with
  | [c0, c1, c2, c3, c4, c5], _ =>
    obtain ⟨fuel, hf⟩ := h
    obtain ⟨xs, n, _, _, hl, hxl, hF⟩ := DataW.trod_struct Tryz.underlying69 hf
    have k1 : Tryz.prog.cellsOf 64 = 1 := by kernel_rfl
    have k2 : Tryz.prog.cellsOf 65 = 1 := by kernel_rfl
    have k3 : Tryz.prog.cellsOf 66 = 1 := by kernel_rfl
    have k4 : Tryz.prog.cellsOf 67 = 1 := by kernel_rfl
    have k5 : Tryz.prog.cellsOf 30 = 1 := by kernel_rfl
    have k6 : Tryz.prog.cellsOf 2 = 1 := by kernel_rfl
    match xs, hxl with
    | [y0, y1, y2, y3, y4, y5], _ =>
      have g0 := hF 0 _ rfl
      have g1 := hF 1 _ rfl
      have g2 := hF 2 _ rfl
      have g3 := hF 3 _ rfl
      have g4 := hF 4 _ rfl
      have g5 := hF 5 _ rfl
      simp [Value.cells, k1] at g0
      simp [Value.cells, k2] at g1
      simp [Value.cells, k3] at g2
      simp [Value.cells, k4] at g3
      simp [Value.cells, k5] at g4
      simp [Value.cells, k6] at g5
      obtain ⟨z0, n', _, _, h0⟩ := trod_struct1 Tryz.underlying64 g0
      have kr : Tryz.prog.cellsOf 62 = 1 := by kernel_rfl
      obtain ⟨rs, hr⟩ := open_rooms (v := c0) (by simpa [kr] using h0)
      obtain ⟨gs, hg⟩ := trod_guilds g1
      obtain ⟨ss, hs⟩ := trod_smiths g2
      obtain ⟨ds, hd⟩ := trod_desks g3
      obtain ⟨ps, hp⟩ := open_nums g4
      obtain ⟨now, e, _⟩ := DataW.trod_int Tryz.underlying2 g5
      cases e
      exact ⟨c0, c1, c2, c3, c4, ⟨rs, gs, ss, ds, ps, now⟩, rfl, ⟨hr, hg, hs, hd, hp⟩⟩

end Go.Proofs.YtaegckehjlkaaaaGreat

/- The walk of the exact law on Crowded. Condition: the smithy can be read. -/
namespace Go.Proofs.YtaegckehjlkaaaaGreat
open Go.ChangeShapes Go.WideShapes Go.ChangeAt Go.RowKit Go.Sort
set_option linter.unusedVariables false
set_option linter.unusedSimpArgs false
set_option maxRecDepth 100000

set_option maxRecDepth 100000 in
set_option maxHeartbeats 8000000 in
theorem walkFnExactCrowded (v0 v1 v2 v3 v4 : Value) (m : SmyV) (w : World) (h : Smy w v0 v1 v2 v3 v4 m) :
    Calls Tryz.prog 8 #[.agg #[v0, v1, v2, v3, v4, .int .i64 m.now]] w fun e w' => e = .returned (.bool true) ∧ Below w.heap.size w w' := by
  obtain ⟨q, hq⟩ : ∃ q, crowdedV m = q := ⟨_, rfl⟩
  have Hq := hide hq
  clear hq
  have Hv := hide h
  obtain ⟨a0, p0, rfl, _, _⟩ := IsRooms.shape h.rooms
  obtain ⟨a1, p1, rfl, _, _⟩ := IsRec.shape h.guilds
  obtain ⟨a2, p2, rfl, _, _⟩ := IsRec.shape h.smiths
  obtain ⟨a3, p3, rfl, _, _⟩ := IsRec.shape h.desks
  obtain ⟨a4, p4, rfl, _, _⟩ := IsRec.shape h.paces
  clear h
  go_enter Tryz.func8, Tryz.ntmps8
  go_wp2_with fail
  refine (szSmithy_any ((unhide Hv).alloc _)).mono ?_
  rintro e w1 ⟨x, rfl, hx, hb⟩
  have ka : Hid (Blk w1 w.heap.size 69 #[.slice a0 m.rooms.length p0, .slice a1 m.guilds.length p1, .slice a2 m.smiths.length p2, .slice a3 m.desks.length p3, .slice a4 m.paces.length p4, .int .i64 m.now]) := hide ((Blk.new w _ _).below hb (by simp))
  have BB : Hid (Below w.heap.size w w1) := hide (((Below.refl _ _).alloc (Nat.le_refl _) _).trans (hb.mono (by simp)))
  have Hx := hide hx
  clear hx hb
  by_cases hx0 : x < 0
  · go_wp2_with fail
    go_ret
    exact ⟨rfl, unhide BB⟩
  have Hs := hide (unhide Hx (by omega))
  clear Hx
  have c0 := (unhide ka).cell (i := 0) (v := .slice a0 m.rooms.length p0) rfl
  have c1 := (unhide ka).cell (i := 1) (v := .slice a1 m.guilds.length p1) rfl
  have c2 := (unhide ka).cell (i := 2) (v := .slice a2 m.smiths.length p2) rfl
  have c3 := (unhide ka).cell (i := 3) (v := .slice a3 m.desks.length p3) rfl
  have c4 := (unhide ka).cell (i := 4) (v := .slice a4 m.paces.length p4) rfl
  have c5 := (unhide ka).cell (i := 5) (v := .int .i64 m.now) rfl
  go_wp2_with fail
  refine (toSmithy_any ((unhide Hv).below (unhide BB)) (unhide Hs)).mono ?_
  rintro e w2 ⟨u0, u1, u2, u3, u4, rfl, ho, hb⟩
  clear c0 c1 c2 c3 c4 c5
  have k2 := ho.smy
  obtain ⟨b0, q0, rfl, _, _⟩ := IsRooms.shape k2.rooms
  obtain ⟨b1, q1, rfl, _, _⟩ := IsRec.shape k2.guilds
  obtain ⟨b2, q2, rfl, _, _⟩ := IsRec.shape k2.smiths
  obtain ⟨b3, q3, rfl, _, _⟩ := IsRec.shape k2.desks
  obtain ⟨b4, q4, rfl, _, _⟩ := IsRec.shape k2.paces
  have K2 := hide k2
  clear k2 ho
  replace ka := hide ((unhide ka).below hb (unhide ka).lt)
  replace BB := hide ((unhide BB).trans (hb.mono (unhide BB).size))
  clear hb
  go_wp2_with fail
  refine (specCrowded_any (unhide Hq) (unhide K2)).mono ?_
  rintro e w3 ⟨rfl, hb⟩
  replace ka := hide ((unhide ka).below hb (unhide ka).lt)
  replace BB := hide ((unhide BB).trans (hb.mono (unhide BB).size))
  clear hb K2
  have c0 := (unhide ka).cell (i := 0) (v := .slice a0 m.rooms.length p0) rfl
  have c1 := (unhide ka).cell (i := 1) (v := .slice a1 m.guilds.length p1) rfl
  have c2 := (unhide ka).cell (i := 2) (v := .slice a2 m.smiths.length p2) rfl
  have c3 := (unhide ka).cell (i := 3) (v := .slice a3 m.desks.length p3) rfl
  have c4 := (unhide ka).cell (i := 4) (v := .slice a4 m.paces.length p4) rfl
  have c5 := (unhide ka).cell (i := 5) (v := .int .i64 m.now) rfl
  go_wp2_with fail
  refine (toSmithy_any ((unhide Hv).below (unhide BB)) (unhide Hs)).mono ?_
  rintro e w4 ⟨u0, u1, u2, u3, u4, rfl, ho, hb⟩
  clear c0 c1 c2 c3 c4 c5
  have k4 := ho.smy
  obtain ⟨d0, r0, rfl, _, _⟩ := IsRooms.shape k4.rooms
  obtain ⟨d1, r1, rfl, _, _⟩ := IsRec.shape k4.guilds
  obtain ⟨d2, r2, rfl, _, _⟩ := IsRec.shape k4.smiths
  obtain ⟨d3, r3, rfl, _, _⟩ := IsRec.shape k4.desks
  obtain ⟨d4, r4, rfl, _, _⟩ := IsRec.shape k4.paces
  have K4 := hide (k4.alloc (.cells #[.slice d0 m.rooms.length r0, .slice d1 m.guilds.length r1, .slice d2 m.smiths.length r2, .slice d3 m.desks.length r3, .slice d4 m.paces.length r4, .int .i64 m.now] 32))
  clear k4 ho
  replace ka := hide ((unhide ka).below hb (unhide ka).lt)
  replace BB := hide ((unhide BB).trans (hb.mono (unhide BB).size))
  clear hb
  go_wp2_with fail
  replace ka := hide ((unhide ka).alloc (.cells #[.slice d0 m.rooms.length r0, .slice d1 m.guilds.length r1, .slice d2 m.smiths.length r2, .slice d3 m.desks.length r3, .slice d4 m.paces.length r4, .int .i64 m.now] 32))
  replace BB := hide ((unhide BB).alloc (unhide BB).size (.cells #[.slice d0 m.rooms.length r0, .slice d1 m.guilds.length r1, .slice d2 m.smiths.length r2, .slice d3 m.desks.length r3, .slice d4 m.paces.length r4, .int .i64 m.now] 32))
  have kx : Hid (Blk (w4.alloc (.cells #[.slice d0 m.rooms.length r0, .slice d1 m.guilds.length r1, .slice d2 m.smiths.length r2, .slice d3 m.desks.length r3, .slice d4 m.paces.length r4, .int .i64 m.now] 32)) w4.heap.size 32 #[.slice d0 m.rooms.length r0, .slice d1 m.guilds.length r1, .slice d2 m.smiths.length r2, .slice d3 m.desks.length r3, .slice d4 m.paces.length r4, .int .i64 m.now]) := hide (Blk.new _ _ _)
  generalize w4.alloc (.cells #[.slice d0 m.rooms.length r0, .slice d1 m.guilds.length r1, .slice d2 m.smiths.length r2, .slice d3 m.desks.length r3, .slice d4 m.paces.length r4, .int .i64 m.now] 32) = W at *
  generalize w4.heap.size = xb at *
  refine (implCrowded_any (unhide Hq) (unhide K4)).mono ?_
  rintro e w5 ⟨rfl, hb⟩
  replace K4 := hide ((unhide K4).below hb)
  replace ka := hide ((unhide ka).below hb (unhide ka).lt)
  replace kx := hide ((unhide kx).below hb (unhide kx).lt)
  replace BB := hide ((unhide BB).trans (hb.mono (unhide BB).size))
  clear hb
  have V5 := hide ((unhide Hv).below (unhide BB))
  have c0 := (unhide ka).cell (i := 0) (v := .slice a0 m.rooms.length p0) rfl
  have c1 := (unhide ka).cell (i := 1) (v := .slice a1 m.guilds.length p1) rfl
  have c2 := (unhide ka).cell (i := 2) (v := .slice a2 m.smiths.length p2) rfl
  have c3 := (unhide ka).cell (i := 3) (v := .slice a3 m.desks.length p3) rfl
  have c4 := (unhide ka).cell (i := 4) (v := .slice a4 m.paces.length p4) rfl
  have c5 := (unhide ka).cell (i := 5) (v := .int .i64 m.now) rfl
  have x0 := (unhide kx).cell (i := 0) (v := .slice d0 m.rooms.length r0) rfl
  have x1 := (unhide kx).cell (i := 1) (v := .slice d1 m.guilds.length r1) rfl
  have x2 := (unhide kx).cell (i := 2) (v := .slice d2 m.smiths.length r2) rfl
  have x3 := (unhide kx).cell (i := 3) (v := .slice d3 m.desks.length r3) rfl
  have x4 := (unhide kx).cell (i := 4) (v := .slice d4 m.paces.length r4) rfl
  have x5 := (unhide kx).cell (i := 5) (v := .int .i64 m.now) rfl
  cases q
  all_goals
    go_wp2_with fail
    go_region_with (first
      | (go_at_call 46; refine (toSmithy_any (m := m) ?_ (unhide Hs)).mono ?_; exact (unhide V5).below (Below.refl _ _).drew; rintro e w6 ⟨u0, u1, u2, u3, u4, rfl, ho, hb⟩; have k6 := ho.smy; obtain ⟨f0, t0, rfl, _, _⟩ := IsRooms.shape k6.rooms; obtain ⟨f1, t1, rfl, _, _⟩ := IsRec.shape k6.guilds; obtain ⟨f2, t2, rfl, _, _⟩ := IsRec.shape k6.smiths; obtain ⟨f3, t3, rfl, _, _⟩ := IsRec.shape k6.desks; obtain ⟨f4, t4, rfl, _, _⟩ := IsRec.shape k6.paces; have K6 := hide k6; have Hb6 : Hid (Below w5.heap.size w5 w6) := hide ⟨hb.os, hb.tape, hb.output, hb.size, hb.block⟩; have kx6 := (unhide kx).below (unhide Hb6) (unhide kx).lt; have y0 := kx6.cell (i := 0) (v := .slice d0 m.rooms.length r0) rfl; have y1 := kx6.cell (i := 1) (v := .slice d1 m.guilds.length r1) rfl; have y2 := kx6.cell (i := 2) (v := .slice d2 m.smiths.length r2) rfl; have y3 := kx6.cell (i := 3) (v := .slice d3 m.desks.length r3) rfl; have y4 := kx6.cell (i := 4) (v := .slice d4 m.paces.length r4) rfl; have y5 := kx6.cell (i := 5) (v := .int .i64 m.now) rfl; clear k6 ho hb kx6)
      | (go_at_call 47; refine (eqSmithy_yes (m := m) ?_ ?_).mono ?_; exact (unhide K4).below (unhide Hb6); exact unhide K6; rintro e w7 ⟨rfl, hb⟩; have Hb7 := hide hb; clear hb))
    all_goals
      go_wp2_with fail
      go_ret
      exact ⟨rfl, (unhide BB).trans (((unhide Hb6).trans ((unhide Hb7).mono (unhide Hb6).size)).mono (unhide BB).size)⟩

end Go.Proofs.YtaegckehjlkaaaaGreat

/- Contracts of the laws' own helpers that mark a hall and ask whether it holds its marks: halls that the call itself made, no two rows in one block. Conditions: those that each theorem names. -/
namespace Go.Proofs.YtaegckehjlkaaaaGreat
open Go.ChangeShapes Go.WideShapes Go.ChangeAt Go.RowKit Go.Sort
set_option linter.unusedVariables false

theorem rput (b : Int) (x : List PaceV) : ∀ (qs : List (RoomV × Value)) (j : Nat) (h : j < qs.length), (rcells qs).set (j * 2) (.int .i64 b) = rcells (qs.set j ((b, x), qs[j].2))
  | q :: qs, 0, _ => by simp [rcells]
  | q :: qs, j + 1, h => by
    have ih := rput b x qs j (by simpa using h)
    unfold rcells at ih ⊢
    rw [List.flatMap_cons, show (j + 1) * 2 = j * 2 + 2 by omega]
    simpa using ih
set_option maxRecDepth 100000 in
set_option maxHeartbeats 2000000 in
theorem markPaceS_any {n₀ : Nat} {w : World} {v : Value} {ps : List PaceV} (k : Int) (h : PacesAt n₀ w v ps) (hk0 : 0 ≤ k) (hk1 : k ≤ 1000000000000000) (hl : ps.length ≤ 1000000000) :
    Calls Tryz.prog 206 #[v, .int .i64 k] w fun e w' => e = .returned (.int .i64 (k + 2 * (ps.length : Int))) ∧ PacesAt n₀ w' v (mps k ps.length) ∧ w.grownBy w' v.ownBlock := by
  have Hv := hide h
  obtain ⟨a, cap, rfl⟩ := h.shape
  clear h
  go_enter Tryz.func206, Tryz.ntmps206
  go_wp2_with fail
  go_loopw [5, 1] (fun i q wr => ∃ j : Nat, j ≤ ps.length ∧ i = .int .i64 j ∧ q = .int .i64 (k + 2 * (j : Int)) ∧ PacesAt n₀ wr (.slice a ps.length cap) (mpd ps k j) ∧ w.grownBy wr (Value.ownBlock (.slice a ps.length cap))) (fun i _ _ => ps.length - (intOf i).toNat)
  case atStart => exact ⟨0, Nat.zero_le _, rfl, by simp, by simpa [mpd, mps] using unhide Hv, grown_refl _ _⟩
  case round =>
    obtain ⟨j, hj, rfl, rfl, hin, hgr⟩ := hrel
    by_cases hlt : j < ps.length
    · unfold PacesAt at hin
      rw [mpd_len hj] at hin
      obtain ⟨g, rfl⟩ : ∃ g, a = some ⟨g, 0, none⟩ := by
        rcases hin.2 with ⟨h9, h8⟩ | ⟨g, c', cur, h9, _⟩
        · omega
        · cases h9; exact ⟨g, rfl⟩
      have hcell := fun (o : Nat) (ho : o < ps.length * 2) => World.ownsRow.cellAt hin o (by omega)
      have hpl : (pcells (mpd ps k j)).length = ps.length * 2 := by unfold pcells; rw [pairs_len, mpd_len hj]
      obtain ⟨c0, hc0⟩ : ∃ c, wr.cell? ⟨g, j * 2, none⟩ = some c := ⟨_, (hcell (j * 2) (by omega)).trans (List.getElem?_eq_getElem (by omega))⟩
      obtain ⟨c1, hc1⟩ : ∃ c, wr.cell? ⟨g, j * 2 + 1, none⟩ = some c := ⟨_, (hcell (j * 2 + 1) (by omega)).trans (List.getElem?_eq_getElem (by omega))⟩
      have f0 := World.ownsRow.frozenAt hin (j * 2)
      have f1 := World.ownsRow.frozenAt hin (j * 2 + 1)
      obtain ⟨s1, s2⟩ := World.ownsRow.stored hin (j * 2) (.int .i64 (k + 2 * (j : Int)))
      obtain ⟨t1, t2⟩ := World.ownsRow.stored s1 (j * 2 + 1) (.int .i64 (k + 2 * (j : Int) + 1))
      rw [pput _ _ _ _ (by rw [mpd_len hj]; exact hlt), mpd_succ hlt] at t1
      have H1 : Hid (PacesAt n₀ ((wr.setCell ⟨g, j * 2, none⟩ (.int .i64 (k + 2 * (j : Int)))).setCell ⟨g, j * 2 + 1, none⟩ (.int .i64 (k + 2 * (j : Int) + 1))) (.slice (some ⟨g, 0, none⟩) ps.length cap) (mpd ps k (j + 1))) := hide (by unfold PacesAt; rw [mpd_len hlt]; exact t1)
      have H2 := hide (grown_trans hgr (grown_trans s2 t2))
      have hc1' : (wr.setCell ⟨g, j * 2, none⟩ (.int .i64 (k + 2 * (j : Int)))).cell? ⟨g, j * 2 + 1, none⟩ = some c1 := by rw [World.cell?_setCell_other _ _ _ _ (by simp)]; exact hc1
      have f1' : (wr.setCell ⟨g, j * 2, none⟩ (.int .i64 (k + 2 * (j : Int)))).frozen? ⟨g, j * 2 + 1, none⟩ = false := by rw [World.frozen?_setCell]; exact f1
      clear hin hgr s1 s2 t1 t2 hcell hpl
      go_wp2_with fail
      go_roundw
      case rel => exact ⟨j + 1, by omega, by go_num, by go_num, unhide H1, unhide H2⟩
      case measure => simp [intOf]; omega
    · obtain rfl : j = ps.length := by omega
      rw [mpd_all] at hin
      go_wp2_with fail
      go_ret
      exact ⟨rfl, hin, hgr⟩

end Go.Proofs.YtaegckehjlkaaaaGreat

/- Contracts of the laws' own helpers that mark a hall's rooms and ask whether they hold their marks. Conditions: those that each theorem names. -/
namespace Go.Proofs.YtaegckehjlkaaaaGreat
open Go.ChangeShapes Go.WideShapes Go.ChangeAt Go.RowKit Go.Sort
set_option linter.unusedVariables false

theorem rsame (x : List PaceV) : ∀ (qs : List (RoomV × Value)) (j : Nat) (h : j < qs.length), rcells (qs.set j ((qs[j].1.1, x), qs[j].2)) = rcells qs
  | q :: qs, 0, _ => by simp [rcells]
  | q :: qs, j + 1, h => by
    have ih := rsame x qs j (by simpa using h)
    unfold rcells at ih ⊢
    simpa using ih
theorem map_keep {qs : List (RoomV × Value)} {j : Nat} (hj : j < qs.length) (r : RoomV) : (qs.set j (r, qs[j].2)).map (·.2) = qs.map (·.2) := by
  rw [List.map_set]
  simp only
  have : (qs.map (·.2))[j]'(by simpa using hj) = qs[j].2 := by simp
  rw [← this, List.set_getElem_self]
theorem mem_put {qs : List (RoomV × Value)} {j : Nat} (hj : j < qs.length) {r : RoomV} {q : RoomV × Value} (h : q ∈ qs.set j (r, qs[j].2)) : (q ∈ qs) ∨ q = (r, qs[j].2) := List.mem_or_eq_of_mem_set h

theorem OwnHall.bench {n₀ g cap : Nat} {w : World} {qs : List (RoomV × Value)} (h : OwnHall n₀ w (.slice (some ⟨g, 0, none⟩) qs.length cap) qs) {j : Nat} (hj : j < qs.length) (b : Int) :
    OwnHall n₀ (w.setCell ⟨g, j * 2, none⟩ (.int .i64 b)) (.slice (some ⟨g, 0, none⟩) qs.length cap) (qs.set j ((b, qs[j].1.2), qs[j].2)) := by
  have hst := (World.ownsRow.stored h.row (j * 2) (.int .i64 b)).1
  rw [rput b qs[j].1.2 qs j hj] at hst
  have hold : ∀ q ∈ qs, PacesAt n₀ (w.setCell ⟨g, j * 2, none⟩ (.int .i64 b)) q.2 q.1.2 := fun q hq => own_same (h.paces q hq) (fun k e => Below.heap_setCell w ⟨g, j * 2, none⟩ _ k (fun e' => h.off q hq k e (by show some g = some k; rw [e'])))
  refine ⟨by simpa using hst, fun q hq => ?_, fun q hq b' e => ?_, by rw [map_keep hj]; exact h.apart⟩
  · rcases mem_put hj hq with hq | rfl
    · exact hold q hq
    · exact hold qs[j] (List.getElem_mem hj)
  · rcases mem_put hj hq with hq | rfl
    · exact h.off q hq b' e
    · exact h.off qs[j] (List.getElem_mem hj) b' e
theorem apart_ne {qs : List (RoomV × Value)} (h : (qs.map (·.2)).Pairwise fun x y => ∀ b, x.ownBlock = some b → y.ownBlock ≠ some b) {i j : Nat} (hi : i < qs.length) (hj : j < qs.length) (hne : i ≠ j) {b : Nat} (e : qs[i].2.ownBlock = some b) : qs[j].2.ownBlock ≠ some b := by
  rw [List.pairwise_iff_getElem] at h
  rcases Nat.lt_or_gt_of_ne hne with hlt | hgt
  · have := h i j (by simpa using hi) (by simpa using hj) hlt b (by simpa using e)
    simpa using this
  · intro e'
    have := h j i (by simpa using hj) (by simpa using hi) hgt b (by simpa using e')
    simp at this
    exact this e
theorem OwnHall.repace {n₀ : Nat} {w w' : World} {v : Value} {qs : List (RoomV × Value)} (h : OwnHall n₀ w v qs) {j : Nat} (hj : j < qs.length) {ps : List PaceV} (hp : PacesAt n₀ w' qs[j].2 ps) (hg : w.grownBy w' qs[j].2.ownBlock) :
    OwnHall n₀ w' v (qs.set j ((qs[j].1.1, ps), qs[j].2)) := by
  have hs : ∀ k, k < w.heap.size → qs[j].2.ownBlock ≠ some k → w'.heap[k]? = w.heap[k]? := fun k hk hn => hg.block k hk (fun e => hn e.symm)
  refine ⟨?_, fun q hq => ?_, fun q hq b' e => ?_, by rw [map_keep hj]; exact h.apart⟩
  · have := own_same h.row (fun k e => hs k (h.lt (.inl e)).2 (fun e' => h.off qs[j] (List.getElem_mem hj) k e' e))
    rw [List.length_set, rsame ps qs j hj]; exact this
  · obtain ⟨i, hi, rfl⟩ := List.getElem_of_mem hq
    have hi' : i < qs.length := by simpa using hi
    by_cases hij : i = j
    · subst hij; simpa using hp
    · rw [List.getElem_set_ne (fun e => hij e.symm)]
      exact own_same (h.paces qs[i] (List.getElem_mem hi')) (fun k e => hs k (h.lt (.inr ⟨qs[i], List.getElem_mem hi', e⟩)).2 (apart_ne h.apart hi' hj hij e))
  · rcases mem_put hj hq with hq | rfl
    · exact h.off q hq b' e
    · exact h.off qs[j] (List.getElem_mem hj) b' e

/-- Only blocks of that hall and new ones may differ. -/
structure OwnOnly (v : Value) (qs : List (RoomV × Value)) (w w' : World) : Prop where
  os : w'.os = w.os
  tape : w'.tape = w.tape
  output : w'.output = w.output
  size : w.heap.size ≤ w'.heap.size
  block : ∀ k, k < w.heap.size → v.ownBlock ≠ some k → (∀ q ∈ qs, q.2.ownBlock ≠ some k) → w'.heap[k]? = w.heap[k]?
theorem OwnOnly.refl (v : Value) (qs : List (RoomV × Value)) (w : World) : OwnOnly v qs w w := ⟨rfl, rfl, rfl, Nat.le_refl _, fun _ _ _ _ => rfl⟩
theorem OwnOnly.trans {v : Value} {qs : List (RoomV × Value)} {a b c : World} (h : OwnOnly v qs a b) (k : OwnOnly v qs b c) : OwnOnly v qs a c :=
  ⟨k.os.trans h.os, k.tape.trans h.tape, k.output.trans h.output, Nat.le_trans h.size k.size, fun i hi h1 h2 => (k.block i (Nat.lt_of_lt_of_le hi h.size) h1 h2).trans (h.block i hi h1 h2)⟩
theorem OwnOnly.set {g n cap o : Nat} {qs : List (RoomV × Value)} {w : World} (x : Value) : OwnOnly (.slice (some ⟨g, 0, none⟩) n cap) qs w (w.setCell ⟨g, o, none⟩ x) :=
  ⟨rfl, rfl, rfl, by simp, fun k hk h1 _ => Below.heap_setCell w ⟨g, o, none⟩ x k (fun e => h1 (by show some g = some k; rw [e]))⟩
theorem OwnOnly.grown {v : Value} {qs : List (RoomV × Value)} {w w' : World} {q : RoomV × Value} (hq : q ∈ qs) (hg : w.grownBy w' q.2.ownBlock) : OwnOnly v qs w w' :=
  ⟨hg.os, hg.tape, hg.output, hg.size, fun k hk _ h2 => hg.block k hk (fun e => h2 q hq e.symm)⟩
theorem OwnOnly.alloc (v : Value) (qs : List (RoomV × Value)) (w : World) (o : Obj) : OwnOnly v qs w (w.alloc o) := ⟨rfl, rfl, rfl, by simp, fun k hk _ _ => Below.heap_alloc w o k hk⟩
def kEnd : Int → List (RoomV × Value) → Int
  | k, [] => k
  | k, q :: qs => kEnd (k + 1 + 2 * (q.1.2.length : Int)) qs
def markQ : Int → List (RoomV × Value) → List (RoomV × Value)
  | _, [] => []
  | k, q :: qs => ((k, mps (k + 1) q.1.2.length), q.2) :: markQ (k + 1 + 2 * (q.1.2.length : Int)) qs
theorem kEnd_app : ∀ (a : List (RoomV × Value)) (k : Int) (b : List (RoomV × Value)), kEnd k (a ++ b) = kEnd (kEnd k a) b
  | [], _, _ => rfl
  | q :: a, k, b => kEnd_app a _ b
theorem markQ_app : ∀ (a : List (RoomV × Value)) (k : Int) (b : List (RoomV × Value)), markQ k (a ++ b) = markQ k a ++ markQ (kEnd k a) b
  | [], _, _ => rfl
  | q :: a, k, b => by simp only [List.cons_append, markQ, kEnd]; rw [markQ_app a _ b]
theorem markQ_len : ∀ (a : List (RoomV × Value)) (k : Int), (markQ k a).length = a.length
  | [], _ => rfl
  | q :: a, k => by simp [markQ, markQ_len a]
theorem take_s {α : Type} {l : List α} {j : Nat} (h : j < l.length) : l.take (j + 1) = l.take j ++ [l[j]] := List.take_succ_eq_append_getElem h
theorem kEnd_s {qs : List (RoomV × Value)} {k : Int} {j : Nat} (h : j < qs.length) : kEnd k (qs.take (j + 1)) = kEnd k (qs.take j) + 1 + 2 * (qs[j].1.2.length : Int) := by rw [take_s h, kEnd_app]; rfl
theorem kEnd_bd {qs : List (RoomV × Value)} (hp : ∀ q ∈ qs, q.1.2.length ≤ 1048576) (k : Int) : ∀ j, j ≤ qs.length → k ≤ kEnd k (qs.take j) ∧ kEnd k (qs.take j) ≤ k + 2097153 * j
  | 0, _ => by simp [kEnd]
  | j + 1, hj => by
    have ih := kEnd_bd hp k j (by omega)
    have hq := hp qs[j] (List.getElem_mem (by omega))
    rw [kEnd_s (by omega)]; omega
def markedTo (k : Int) (qs : List (RoomV × Value)) (j : Nat) : List (RoomV × Value) := markQ k (qs.take j) ++ qs.drop j
theorem markedTo_len {k : Int} {qs : List (RoomV × Value)} {j : Nat} (h : j ≤ qs.length) : (markedTo k qs j).length = qs.length := by unfold markedTo; rw [List.length_append, markQ_len]; simp; omega
theorem markedTo_at? {k : Int} {qs : List (RoomV × Value)} {j : Nat} (h : j < qs.length) : (markedTo k qs j)[j]? = some qs[j] := by
  have hl : (markQ k (qs.take j)).length = j := by rw [markQ_len]; simp; omega
  unfold markedTo
  rw [List.getElem?_append_right (by omega), hl, Nat.sub_self, List.drop_eq_getElem_cons h]; rfl
theorem markedTo_at {k : Int} {qs : List (RoomV × Value)} {j : Nat} (h : j < qs.length) (h' : j < (markedTo k qs j).length) : (markedTo k qs j)[j] = qs[j] := by
  have h1 := markedTo_at? (k := k) h
  rw [List.getElem?_eq_getElem h'] at h1
  exact Option.some.inj h1
theorem markedTo_s {k : Int} {qs : List (RoomV × Value)} {j : Nat} (h : j < qs.length) : (markedTo k qs j).set j ((kEnd k (qs.take j), mps (kEnd k (qs.take j) + 1) qs[j].1.2.length), qs[j].2) = markedTo k qs (j + 1) := by
  unfold markedTo
  have hl : (markQ k (qs.take j)).length = j := by rw [markQ_len]; simp; omega
  rw [List.set_append_right _ _ (by omega), hl, Nat.sub_self, List.drop_eq_getElem_cons h, List.set_cons_zero, take_s h, markQ_app]
  simp [markQ]
theorem markedTo_all (k : Int) (qs : List (RoomV × Value)) : markedTo k qs qs.length = markQ k qs := by simp [markedTo]
set_option maxRecDepth 100000 in
set_option maxHeartbeats 2000000 in
theorem markRoomS_any {n₀ : Nat} {w : World} {v : Value} {qs : List (RoomV × Value)} (k : Int) (h : OwnHall n₀ w v qs) (hn : n₀ ≤ w.heap.size) (hk0 : 0 ≤ k) (hk1 : k ≤ 1000000000) (hl : qs.length ≤ 1048576) (hp : ∀ q ∈ qs, q.1.2.length ≤ 1048576) :
    Calls Tryz.prog 156 #[v, .int .i64 k] w fun e w' => e = .returned (.int .i64 (kEnd k qs)) ∧ OwnHall n₀ w' v (markQ k qs) ∧ OwnOnly v qs w w' := by
  have Hv := hide h
  obtain ⟨a, cap, rfl⟩ := h.shape
  have Hp := hide hp
  clear h hp
  go_enter Tryz.func156, Tryz.ntmps156
  go_wp2_with fail
  go_loopw [5, 1] (fun i q wr => ∃ j : Nat, j ≤ qs.length ∧ i = .int .i64 j ∧ q = .int .i64 (kEnd k (qs.take j)) ∧ OwnHall n₀ wr (.slice a qs.length cap) (markedTo k qs j) ∧ OwnOnly (.slice a qs.length cap) qs w wr) (fun i _ _ => qs.length - (intOf i).toNat)
  case atStart => exact ⟨0, Nat.zero_le _, rfl, rfl, by simpa [markedTo, markQ] using unhide Hv, OwnOnly.refl _ _ _⟩
  case round =>
    obtain ⟨j, hj, rfl, rfl, hin, hbl⟩ := hrel
    by_cases hlt : j < qs.length
    · have hml := markedTo_len (k := k) (Nat.le_of_lt hlt)
      have hjm : j < (markedTo k qs j).length := by rw [hml]; exact hlt
      have hat := markedTo_at (k := k) hlt hjm
      have hkb := kEnd_bd (unhide Hp) k j hj
      have hks := kEnd_s (k := k) hlt
      have Hms := hide (markedTo_s (k := k) hlt)
      have hpl := unhide Hp qs[j] (List.getElem_mem hlt)
      obtain ⟨g, rfl⟩ : ∃ g, a = some ⟨g, 0, none⟩ := by
        rcases hin.row.2 with ⟨h9, h8⟩ | ⟨g, c', cur, h9, _⟩
        · omega
        · simp only [Value.slice.injEq] at h9; exact ⟨g, h9.1⟩
      have hin0 := hin
      rw [← hml] at hin
      have hb1 := hin.bench hjm (kEnd k (qs.take j))
      rw [hml] at hb1
      have hrow := hin0.row
      rw [hml] at hrow
      have hc0 := World.ownsRow.cellAt hrow (j * 2) (by omega)
      have hc1 := World.ownsRow.cellAt hrow (j * 2 + 1) (by omega)
      have hpg := pairs_get (f := fun q : RoomV × Value => Value.int .i64 q.1.1) (g := fun q : RoomV × Value => q.2) (markedTo k qs j) j hjm
      have hc0' := hc0.trans hpg.1
      have hc1' := hc1.trans hpg.2
      have f0 := World.ownsRow.frozenAt hrow (j * 2)
      rw [hat] at hc0' hc1' hb1
      have HW1 : Hid (OwnOnly (.slice (some ⟨g, 0, none⟩) qs.length cap) qs w (wr.setCell ⟨g, j * 2, none⟩ (.int .i64 (kEnd k (qs.take j))))) := hide (hbl.trans (OwnOnly.set _))
      have hjs : j < ((markedTo k qs j).set j ((kEnd k (qs.take j), qs[j].1.2), qs[j].2)).length := by rw [List.length_set]; exact hjm
      have hpa := hb1.paces _ (List.getElem_mem hjs)
      rw [List.getElem_set_self] at hpa
      simp only at hpa
      have Hb1 := hide hb1
      have Hpa := hide hpa
      have hd1 : (wr.setCell ⟨g, j * 2, none⟩ (.int .i64 (kEnd k (qs.take j)))).cell? ⟨g, j * 2 + 1, none⟩ = some qs[j].2 := by rw [World.cell?_setCell_other _ _ _ _ (by simp)]; exact hc1'
      obtain ⟨pa, pcap, hps⟩ := hpa.shape
      rw [hps] at hd1
      have Hps := hide hps
      generalize kEnd k (qs.take j) = kj at *
      generalize hk' : kEnd k (qs.take (j + 1)) = kj' at *
      have Hk' := hide hk'
      clear hin hin0 hb1 hrow hc0 hc1 hpg hc1' hpa hps hat hk'
      generalize hbb : qs[j].1.1 = bb at *
      clear hbb
      generalize hll : qs[j].1.2.length = ll at *
      have Hll := hide hll
      clear hll
      go_wp2_with fail
      refine (markPaceS_any (n₀ := n₀) (ps := qs[j].1.2) (kj + 1) (by have h2 := unhide Hpa; rw [unhide Hps] at h2; exact h2) (by omega) (by omega) (by rw [unhide Hll]; omega)).mono ?_
      rw [unhide Hll]
      rintro e w2 ⟨rfl, hpa2, hgr⟩
      have Hrep : Hid (OwnHall n₀ w2 (.slice (some ⟨g, 0, none⟩) qs.length cap) (markedTo k qs (j + 1)) ∧ OwnOnly (.slice (some ⟨g, 0, none⟩) qs.length cap) qs w w2) := hide (by
        have hj2 : j < ((markedTo k qs j).set j ((kj, qs[j].1.2), qs[j].2)).length := hjs
        have e2 : (((markedTo k qs j).set j ((kj, qs[j].1.2), qs[j].2))[j]'hj2) = ((kj, qs[j].1.2), qs[j].2) := List.getElem_set_self _
        have h3 := OwnHall.repace (unhide Hb1) hj2 (ps := mps (kj + 1) ll) (w' := w2) (by rw [e2]; simp only; rw [unhide Hps]; exact hpa2) (by rw [e2]; simp only; rw [unhide Hps]; exact hgr)
        rw [e2, List.set_set] at h3
        simp only at h3
        have h4 := unhide Hms
        rw [h4] at h3
        exact ⟨h3, (unhide HW1).trans (OwnOnly.grown (List.getElem_mem hlt) (by rw [unhide Hps]; exact hgr))⟩)
      clear hpa2 hgr
      go_wp2_with fail
      go_roundw
      case rel => exact ⟨j + 1, by omega, by go_num, by rw [unhide Hk', hks], (unhide Hrep).1, (unhide Hrep).2⟩
      case measure => simp [intOf]; omega
    · obtain rfl : j = qs.length := by omega
      rw [markedTo_all] at hin
      rw [List.take_length]
      go_wp2_with fail
      go_ret
      exact ⟨rfl, hin, hbl⟩

set_option maxRecDepth 100000 in
set_option maxHeartbeats 1000000 in
theorem markHall_any {n₀ : Nat} {w : World} {v : Value} {qs : List (RoomV × Value)} (k : Int) (h : OwnHall n₀ w v qs) (hn : n₀ ≤ w.heap.size) (hk0 : 0 ≤ k) (hk1 : k ≤ 1000000000) (hl : qs.length ≤ 1048576) (hp : ∀ q ∈ qs, q.1.2.length ≤ 1048576) :
    Calls Tryz.prog 108 #[.agg #[v], .int .i64 k] w fun e w' => e = .returned (.int .i64 (kEnd k qs)) ∧ OwnHall n₀ w' v (markQ k qs) ∧ OwnOnly v qs w w' := by
  have Hv := hide h
  obtain ⟨a, cap, rfl⟩ := h.shape
  have Hp := hide hp
  clear h hp
  go_enter Tryz.func108, Tryz.ntmps108
  go_wp2_with fail
  refine (markRoomS_any k ((unhide Hv).later ((Below.refl _ _).alloc (Nat.le_refl _) _)) (by simp; omega) hk0 hk1 hl (unhide Hp)).mono ?_
  rintro e w1 ⟨rfl, ho, hb⟩
  have Ho := hide ho
  have Hb := hide hb
  clear ho hb
  go_wp2_with fail
  go_ret
  exact ⟨rfl, unhide Ho, (OwnOnly.alloc _ _ _ _).trans (unhide Hb)⟩

end Go.Proofs.YtaegckehjlkaaaaGreat

/- Contracts of the laws' own helpers that mark a list of records (Guild) and ask whether it holds its marks. Conditions: those that each theorem names. -/
namespace Go.Proofs.YtaegckehjlkaaaaGreat
open Go.ChangeShapes Go.WideShapes Go.ChangeAt Go.RowKit Go.Sort
set_option linter.unusedVariables false

def mkGuild (c : Int) : GuildV := (c, c + 1, c + 1 + 1)

set_option maxRecDepth 100000 in
set_option maxHeartbeats 8000000 in
theorem markGuildS_any {n₀ : Nat} {w : World} {v : Value} {ps : List GuildV} (c : Int) (h : GuildsAt n₀ w v ps) (hk0 : 0 ≤ c) (hk1 : c ≤ 1000000000000000) (hl : ps.length ≤ 10000000) :
    Calls Tryz.prog 109 #[v, .int .i64 c] w fun e w' => e = .returned (.int .i64 (c + 3 * (ps.length : Int))) ∧ GuildsAt n₀ w' v (markL mkGuild 3 c ps.length) ∧ w.grownBy w' v.ownBlock := by
  have Hv := hide h
  obtain ⟨a, cap, rfl⟩ := RecAt.shape h
  clear h
  go_enter Tryz.func109, Tryz.ntmps109
  go_wp2_with fail
  go_loopw [5, 1] (fun i q wr => ∃ j : Nat, j ≤ ps.length ∧ i = .int .i64 j ∧ q = .int .i64 (c + 3 * (j : Int)) ∧ GuildsAt n₀ wr (.slice a ps.length cap) (markedL mkGuild 3 c ps j) ∧ w.grownBy wr (Value.ownBlock (.slice a ps.length cap))) (fun i _ _ => ps.length - (intOf i).toNat)
  case atStart => exact ⟨0, Nat.zero_le _, rfl, by simp, by rw [markedL_zero]; exact unhide Hv, grown_refl _ _⟩
  case round =>
    obtain ⟨j, hj, rfl, rfl, hin, hgr⟩ := hrel
    by_cases hlt : j < ps.length
    · have hfl := markedL_len (mk := mkGuild) (d := 3) (c := c) hj
      obtain ⟨g, rfl, _, _, hcells, hfz⟩ := RecAt.view encGuild_len (by omega) hin hfl.symm (by omega)
      have hq := fun i u hu => hcells j (by omega) i u hu
      generalize recAt (markedL mkGuild 3 c ps j) j = old at hq
      have o0 := hq 0 _ rfl
      have f0 := hfz (j * 3)
      have o1 := hq 1 _ rfl
      have f1 := hfz (j * 3 + 1)
      have o2 := hq 2 _ rfl
      have f2 := hfz (j * 3 + 2)
      simp only [Nat.add_zero] at o0
      have hp := RecAt.put encGuild_len (by omega) hin hfl.symm (j := j) (by omega) (mkGuild (c + 3 * (j : Int)))
      have hs9 := markedL_set (mk := mkGuild) (d := 3) (c := c) hlt
      rw [show ((3 : Nat) : Int) = 3 from rfl] at hs9
      have HS := hide hs9
      clear hs9
      have H1 := hide hp.1
      have H2 := hide (grown_trans hgr hp.2)
      clear hin hgr hcells hq hfz hp hfl
      go_wp2_with fail
      go_roundw
      case rel => exact ⟨j + 1, by omega, by go_num, by go_num, by have h9 := unhide H1; rw [unhide HS] at h9; exact h9, unhide H2⟩
      case measure => simp [intOf]; omega
    · obtain rfl : j = ps.length := by omega
      rw [markedL_all] at hin
      go_wp2_with fail
      go_ret
      exact ⟨rfl, hin, hgr⟩

end Go.Proofs.YtaegckehjlkaaaaGreat

/- Contracts of the laws' own helpers that mark a list of records (Smith) and ask whether it holds its marks. Conditions: those that each theorem names. -/
namespace Go.Proofs.YtaegckehjlkaaaaGreat
open Go.ChangeShapes Go.WideShapes Go.ChangeAt Go.RowKit Go.Sort
set_option linter.unusedVariables false

def mkSmith (c : Int) : SmithV := (c, c + 1, c + 1 + 1, c + 1 + 1 + 1, c + 1 + 1 + 1 + 1, c + 1 + 1 + 1 + 1 + 1, c + 1 + 1 + 1 + 1 + 1 + 1, c + 1 + 1 + 1 + 1 + 1 + 1 + 1, c + 1 + 1 + 1 + 1 + 1 + 1 + 1 + 1, c + 1 + 1 + 1 + 1 + 1 + 1 + 1 + 1 + 1, c + 1 + 1 + 1 + 1 + 1 + 1 + 1 + 1 + 1 + 1)

set_option maxRecDepth 100000 in
set_option maxHeartbeats 8000000 in
theorem markSmithS_any {n₀ : Nat} {w : World} {v : Value} {ps : List SmithV} (c : Int) (h : SmithsAt n₀ w v ps) (hk0 : 0 ≤ c) (hk1 : c ≤ 1000000000000000) (hl : ps.length ≤ 10000000) :
    Calls Tryz.prog 110 #[v, .int .i64 c] w fun e w' => e = .returned (.int .i64 (c + 11 * (ps.length : Int))) ∧ SmithsAt n₀ w' v (markL mkSmith 11 c ps.length) ∧ w.grownBy w' v.ownBlock := by
  have Hv := hide h
  obtain ⟨a, cap, rfl⟩ := RecAt.shape h
  clear h
  go_enter Tryz.func110, Tryz.ntmps110
  go_wp2_with fail
  go_loopw [5, 1] (fun i q wr => ∃ j : Nat, j ≤ ps.length ∧ i = .int .i64 j ∧ q = .int .i64 (c + 11 * (j : Int)) ∧ SmithsAt n₀ wr (.slice a ps.length cap) (markedL mkSmith 11 c ps j) ∧ w.grownBy wr (Value.ownBlock (.slice a ps.length cap))) (fun i _ _ => ps.length - (intOf i).toNat)
  case atStart => exact ⟨0, Nat.zero_le _, rfl, by simp, by rw [markedL_zero]; exact unhide Hv, grown_refl _ _⟩
  case round =>
    obtain ⟨j, hj, rfl, rfl, hin, hgr⟩ := hrel
    by_cases hlt : j < ps.length
    · have hfl := markedL_len (mk := mkSmith) (d := 11) (c := c) hj
      obtain ⟨g, rfl, _, _, hcells, hfz⟩ := RecAt.view encSmith_len (by omega) hin hfl.symm (by omega)
      have hq := fun i u hu => hcells j (by omega) i u hu
      generalize recAt (markedL mkSmith 11 c ps j) j = old at hq
      have o0 := hq 0 _ rfl
      have f0 := hfz (j * 11)
      have o1 := hq 1 _ rfl
      have f1 := hfz (j * 11 + 1)
      have o2 := hq 2 _ rfl
      have f2 := hfz (j * 11 + 2)
      have o3 := hq 3 _ rfl
      have f3 := hfz (j * 11 + 3)
      have o4 := hq 4 _ rfl
      have f4 := hfz (j * 11 + 4)
      have o5 := hq 5 _ rfl
      have f5 := hfz (j * 11 + 5)
      have o6 := hq 6 _ rfl
      have f6 := hfz (j * 11 + 6)
      have o7 := hq 7 _ rfl
      have f7 := hfz (j * 11 + 7)
      have o8 := hq 8 _ rfl
      have f8 := hfz (j * 11 + 8)
      have o9 := hq 9 _ rfl
      have f9 := hfz (j * 11 + 9)
      have o10 := hq 10 _ rfl
      have f10 := hfz (j * 11 + 10)
      simp only [Nat.add_zero] at o0
      have hp := RecAt.put encSmith_len (by omega) hin hfl.symm (j := j) (by omega) (mkSmith (c + 11 * (j : Int)))
      have hs9 := markedL_set (mk := mkSmith) (d := 11) (c := c) hlt
      rw [show ((11 : Nat) : Int) = 11 from rfl] at hs9
      have HS := hide hs9
      clear hs9
      have H1 := hide hp.1
      have H2 := hide (grown_trans hgr hp.2)
      clear hin hgr hcells hq hfz hp hfl
      go_wp2_with fail
      go_roundw
      case rel => exact ⟨j + 1, by omega, by go_num, by go_num, by have h9 := unhide H1; rw [unhide HS] at h9; exact h9, unhide H2⟩
      case measure => simp [intOf]; omega
    · obtain rfl : j = ps.length := by omega
      rw [markedL_all] at hin
      go_wp2_with fail
      go_ret
      exact ⟨rfl, hin, hgr⟩

end Go.Proofs.YtaegckehjlkaaaaGreat

/- Contracts of the laws' own helpers that mark a list of records (Desk) and ask whether it holds its marks. Conditions: those that each theorem names. -/
namespace Go.Proofs.YtaegckehjlkaaaaGreat
open Go.ChangeShapes Go.WideShapes Go.ChangeAt Go.RowKit Go.Sort
set_option linter.unusedVariables false

def mkDesk (c : Int) : DeskV := ((c % 3 == 0), c + 1, c + 1 + 1)

set_option maxRecDepth 100000 in
set_option maxHeartbeats 8000000 in
theorem markDeskS_any {n₀ : Nat} {w : World} {v : Value} {ps : List DeskV} (c : Int) (h : DesksAt n₀ w v ps) (hk0 : 0 ≤ c) (hk1 : c ≤ 1000000000000000) (hl : ps.length ≤ 10000000) :
    Calls Tryz.prog 111 #[v, .int .i64 c] w fun e w' => e = .returned (.int .i64 (c + 3 * (ps.length : Int))) ∧ DesksAt n₀ w' v (markL mkDesk 3 c ps.length) ∧ w.grownBy w' v.ownBlock := by
  have Hv := hide h
  obtain ⟨a, cap, rfl⟩ := RecAt.shape h
  clear h
  go_enter Tryz.func111, Tryz.ntmps111
  go_wp2_with fail
  go_loopw [5, 1] (fun i q wr => ∃ j : Nat, j ≤ ps.length ∧ i = .int .i64 j ∧ q = .int .i64 (c + 3 * (j : Int)) ∧ DesksAt n₀ wr (.slice a ps.length cap) (markedL mkDesk 3 c ps j) ∧ w.grownBy wr (Value.ownBlock (.slice a ps.length cap))) (fun i _ _ => ps.length - (intOf i).toNat)
  case atStart => exact ⟨0, Nat.zero_le _, rfl, by simp, by rw [markedL_zero]; exact unhide Hv, grown_refl _ _⟩
  case round =>
    obtain ⟨j, hj, rfl, rfl, hin, hgr⟩ := hrel
    by_cases hlt : j < ps.length
    · have hfl := markedL_len (mk := mkDesk) (d := 3) (c := c) hj
      obtain ⟨g, rfl, _, _, hcells, hfz⟩ := RecAt.view encDesk_len (by omega) hin hfl.symm (by omega)
      have hq := fun i u hu => hcells j (by omega) i u hu
      generalize recAt (markedL mkDesk 3 c ps j) j = old at hq
      have hmod : (c + 3 * (j : Int)) % 3 = c % 3 := by omega
      have o0 := hq 0 _ rfl
      have f0 := hfz (j * 3)
      have o1 := hq 1 _ rfl
      have f1 := hfz (j * 3 + 1)
      have o2 := hq 2 _ rfl
      have f2 := hfz (j * 3 + 2)
      simp only [Nat.add_zero] at o0
      have hp := RecAt.put encDesk_len (by omega) hin hfl.symm (j := j) (by omega) (mkDesk (c + 3 * (j : Int)))
      have hs9 := markedL_set (mk := mkDesk) (d := 3) (c := c) hlt
      rw [show ((3 : Nat) : Int) = 3 from rfl] at hs9
      have HS := hide hs9
      clear hs9
      have H1 := hide hp.1
      have H2 := hide (grown_trans hgr hp.2)
      clear hin hgr hcells hq hfz hp hfl
      go_wp2_with fail
      go_roundw
      case rel => exact ⟨j + 1, by omega, by go_num, by go_num, by have h9 := unhide H1; rw [unhide HS] at h9; simpa [setW, encDesk, mkDesk, hmod] using h9, by have h9 := unhide H2; simpa [setW, encDesk, mkDesk, hmod] using h9⟩
      case measure => simp [intOf]; omega
    · obtain rfl : j = ps.length := by omega
      rw [markedL_all] at hin
      go_wp2_with fail
      go_ret
      exact ⟨rfl, hin, hgr⟩

end Go.Proofs.YtaegckehjlkaaaaGreat

/- Contracts of the laws' own helpers that mark a list of int64 and ask whether it holds its marks. Conditions: those that each theorem names. -/
namespace Go.Proofs.YtaegckehjlkaaaaGreat
open Go.ChangeShapes Go.WideShapes Go.ChangeAt Go.RowKit Go.Sort
set_option linter.unusedVariables false

theorem flat_num : ∀ zs : List Int, flat encNum zs = zs.map (Value.int .i64)
  | [] => rfl
  | z :: zs => by
    have := flat_num zs
    unfold flat at this ⊢
    rw [List.flatMap_cons, this]
    rfl
theorem nums_ints {n₀ : Nat} {w : World} {v : Value} {zs : List Int} : NumsAt n₀ w v zs ↔ IntsAt n₀ w v zs := by
  unfold NumsAt RecAt IntsAt
  rw [flat_num]

theorem markNums_any {n₀ : Nat} {w : World} {v : Value} {zs : List Int} (k : Int) (h : NumsAt n₀ w v zs) (hk0 : 0 ≤ k) (hk1 : k ≤ 1000000000000000) (hl : zs.length ≤ 1000000000) :
    Calls Tryz.prog 50 #[v, .int .i64 k] w fun e w' => e = .returned (.int .i64 (k + zs.length)) ∧ NumsAt n₀ w' v (marks k zs.length) ∧ w.grownBy w' v.ownBlock :=
  (markInts_any k (nums_ints.1 h) hk0 hk1 hl).mono fun e w' ⟨h1, h2, h3⟩ => ⟨h1, nums_ints.2 h2, h3⟩
theorem heldNums_yes {n₀ : Nat} {w : World} {v : Value} (k : Int) (n : Nat) (h : NumsAt n₀ w v (marks k n)) (hk0 : 0 ≤ k) (hk1 : k ≤ 1000000000000000) (hl : n ≤ 1000000000) :
    Calls Tryz.prog 51 #[v, .int .i64 k] w fun e w' => e = .returned (.int .i64 (k + n)) ∧ w' = w :=
  heldInts_yes k n (nums_ints.1 h) hk0 hk1 hl

end Go.Proofs.YtaegckehjlkaaaaGreat

