/- What the proof rests on, part 38: lists and numbers, how they lie in memory, and contracts of the calls. No condition but those that a theorem names. -/
import Derived.Test.YtmhagllddhjgmaaGreatXa01
import Derived.Test.YtmhagllddhjgmaaGreatXa02
import Derived.Test.YtmhagllddhjgmaaGreatXa03
import Derived.Test.YtmhagllddhjgmaaGreatXa04
import Derived.Test.YtmhagllddhjgmaaGreatXa05
import Derived.Test.YtmhagllddhjgmaaGreatXa06
import Derived.Test.YtmhagllddhjgmaaGreatXa07
import Derived.Test.YtmhagllddhjgmaaGreatXa08
import Derived.Test.YtmhagllddhjgmaaGreatXa09
import Derived.Test.YtmhagllddhjgmaaGreatXa10
import Derived.Test.YtmhagllddhjgmaaGreatXa11
import Derived.Test.YtmhagllddhjgmaaGreatXa12
import Derived.Test.YtmhagllddhjgmaaGreatXa13
import Derived.Test.YtmhagllddhjgmaaGreatXa14
import Derived.Test.YtmhagllddhjgmaaGreatXa15
import Derived.Test.YtmhagllddhjgmaaGreatXa16
import Derived.Test.YtmhagllddhjgmaaGreatXa17
import Derived.Test.YtmhagllddhjgmaaGreatXa18
import Derived.Test.YtmhagllddhjgmaaGreatXa19
import Derived.Test.YtmhagllddhjgmaaGreatXa20
import Derived.Test.YtmhagllddhjgmaaGreatXa21
import Derived.Test.YtmhagllddhjgmaaGreatXa22
import Derived.Test.YtmhagllddhjgmaaGreatXa23
import Derived.Test.YtmhagllddhjgmaaGreatXa24
import Derived.Test.YtmhagllddhjgmaaGreatXa25
import Derived.Test.YtmhagllddhjgmaaGreatXa26
import Derived.Test.YtmhagllddhjgmaaGreatXa27
import Derived.Test.YtmhagllddhjgmaaGreatXa28
import Derived.Test.YtmhagllddhjgmaaGreatXa29
import Derived.Test.YtmhagllddhjgmaaGreatXa30
import Derived.Test.YtmhagllddhjgmaaGreatXa31
import Derived.Test.YtmhagllddhjgmaaGreatXa32
import Derived.Test.YtmhagllddhjgmaaGreatXa33
import Derived.Test.YtmhagllddhjgmaaGreatXa34
import Derived.Test.YtmhagllddhjgmaaGreatXa35
import Derived.Test.YtmhagllddhjgmaaGreatXa36
import Derived.Test.YtmhagllddhjgmaaGreatXa37
import Derived.Deep.RegionWith
import Derived.Deep.DeepCutAuto
import Derived.Deep.QuietTactic
import Derived.BigQuiet
import Derived.Laws.OwnMore
import Derived.Lib.SmallJoins
import Derived.Deep.Fields
import Derived.Deep.Slices
import Derived.RangeFuncNested
import Derived.RangeFuncBound
import Derived.RangeFuncCalls
import Derived.RangeFuncLeaves
import Derived.RangeFuncBox
import Derived.Shelf.Abstract
import Derived.Shelf.RegionOpen
import Derived.WalkKit
import Derived.OwnWalkIn
import Derived.TacticsInMore
import Derived.LoopNIn
import Derived.LoopIn
import Derived.Lib.QuietBelow
import Derived.Laws.StructEq
import Derived.Deep.DrawnRows
import Derived.BigRegion
import Derived.Deep.RegionLawGrows
import Derived.ProofKit
import Derived.OpenShut
import Derived.Outline
import Derived.OwnWalk
import Derived.Deep.RegionHeld3
import Derived.Maps.AppendAt
import Derived.OrdersHeld
import Derived.Deep.RegionHeldLaw
import Derived.ChangeKeysEq
import Derived.WalkMore
import Derived.Below
import Derived.Deep.LoopGhost
/- The walk of the exact law on At, as far as the law goes: the model's and the program's contracts are its premises here. -/
namespace Go.Proofs.YtmhagllddhjgmaaGreat
open Go.ChangeShapes Go.WideShapes Go.ChangeAt Go.RowKit Go.Sort
set_option linter.unusedVariables false

set_option maxRecDepth 100000 in
set_option maxHeartbeats 16000000 in
theorem walkFnExactAt_of (hS : (∀ (w : World) (v0 v1 v2 v3 v4 : Value) (m : SmyV) (b : Int), Smy w v0 v1 v2 v3 v4 m → Calls Tryz.prog 15 #[.agg #[v0, v1, v2, v3, v4, .int .i64 m.now], .int .i64 b] w fun e w' => ∃ v', e = .returned v' ∧ EntsAt w.heap.size w' v' (smyAtV m b) ∧ Below w.heap.size w w')) (hI : (∀ (w : World) (v0 v1 v2 v3 v4 : Value) (m : SmyV) (b : Int), Smy w v0 v1 v2 v3 v4 m → Calls Tryz.prog 10 #[.agg #[v0, v1, v2, v3, v4, .int .i64 m.now], .int .i64 b] w fun e w' => ∃ v', e = .returned v' ∧ EntsAt w.heap.size w' v' (smyAtV m b) ∧ Below w.heap.size w w')) (hlen : ∀ (m : SmyV) (b : Int), (smyAtV m b).length ≤ 1000) (v0 v1 v2 v3 v4 : Value) (m : SmyV) (b : Int) (w : World) (h : Smy w v0 v1 v2 v3 v4 m) :
    Calls Tryz.prog 6 #[.agg #[v0, v1, v2, v3, v4, .int .i64 m.now], .int .i64 b] w fun e w' => e = .returned (.bool true) ∧ Below w.heap.size w w' := by
  have HS := hide hS
  have HI := hide hI
  clear hS hI
  have Hv := hide h
  obtain ⟨a0, p0, rfl, _, _⟩ := IsRooms.shape h.rooms
  obtain ⟨a1, p1, rfl, _, _⟩ := IsRec.shape h.guilds
  obtain ⟨a2, p2, rfl, _, _⟩ := IsRec.shape h.smiths
  obtain ⟨a3, p3, rfl, _, _⟩ := IsRec.shape h.desks
  obtain ⟨a4, p4, rfl, _, _⟩ := IsRec.shape h.paces
  clear h
  have hL := hlen m b
  have HS1 := hide (fun W u0 u1 u2 u3 u4 => unhide HS W u0 u1 u2 u3 u4 m b)
  have HI1 := hide (fun W u0 u1 u2 u3 u4 => unhide HI W u0 u1 u2 u3 u4 m b)
  clear HS HI hlen
  generalize smyAtV m b = L at *
  go_enter Tryz.func6, Tryz.ntmps6
  go_wp2_with fail
  refine (szSmithy_any ((unhide Hv).alloc _)).mono ?_
  rintro e w1 ⟨x, rfl, hx, hb⟩
  have ka : Hid (Blk w1 w.heap.size 63 #[.slice a0 m.rooms.length p0, .slice a1 m.guilds.length p1, .slice a2 m.smiths.length p2, .slice a3 m.desks.length p3, .slice a4 m.paces.length p4, .int .i64 m.now]) := hide ((Blk.new w _ _).below hb (by simp))
  have BB : Hid (Below w.heap.size w w1) := hide (((Below.refl _ _).alloc (Nat.le_refl _) _).trans (hb.mono (by simp)))
  have Hx := hide hx
  clear hx hb
  by_cases hx0 : x < 0
  · go_wp2_with fail
    go_ret
    exact ⟨rfl, unhide BB⟩
  have Hs := hide (unhide Hx (by omega))
  clear Hx
  have c0 := (unhide ka).cell (i := 0) (v := .slice a0 m.rooms.length p0) rfl
  have c1 := (unhide ka).cell (i := 1) (v := .slice a1 m.guilds.length p1) rfl
  have c2 := (unhide ka).cell (i := 2) (v := .slice a2 m.smiths.length p2) rfl
  have c3 := (unhide ka).cell (i := 3) (v := .slice a3 m.desks.length p3) rfl
  have c4 := (unhide ka).cell (i := 4) (v := .slice a4 m.paces.length p4) rfl
  have c5 := (unhide ka).cell (i := 5) (v := .int .i64 m.now) rfl
  go_wp2_with fail
  refine (toSmithy_any ((unhide Hv).below (unhide BB)) (unhide Hs)).mono ?_
  rintro e w2 ⟨u0, u1, u2, u3, u4, rfl, ho, hb⟩
  clear c0 c1 c2 c3 c4 c5
  have k2 := ho.smy
  obtain ⟨b0, q0, rfl, _, _⟩ := IsRooms.shape k2.rooms
  obtain ⟨b1, q1, rfl, _, _⟩ := IsRec.shape k2.guilds
  obtain ⟨b2, q2, rfl, _, _⟩ := IsRec.shape k2.smiths
  obtain ⟨b3, q3, rfl, _, _⟩ := IsRec.shape k2.desks
  obtain ⟨b4, q4, rfl, _, _⟩ := IsRec.shape k2.paces
  have K2 := hide k2
  clear k2 ho
  replace ka := hide ((unhide ka).below hb (unhide ka).lt)
  replace BB := hide ((unhide BB).trans (hb.mono (unhide BB).size))
  clear hb
  go_wp2_with fail
  refine (unhide HS1 _ _ _ _ _ _ (unhide K2)).mono ?_
  rintro e w3 ⟨v9, rfl, ho9, hb⟩
  obtain ⟨ua, uc, rfl⟩ := EntsAt.shape ho9
  have hsz2 := (unhide BB).size
  replace ka := hide ((unhide ka).below hb (unhide ka).lt)
  replace BB := hide ((unhide BB).trans (hb.mono (unhide BB).size))
  have HU := hide (EntsAt.mono ho9 hsz2)
  have hw3 : w.heap.size < w3.heap.size := (unhide ka).lt
  clear hb ho9 K2 hsz2
  have LU : Hid (∀ k, (Value.slice ua L.length uc).ownBlock = some k → k < w3.heap.size) := hide (fun k e => (EntsAt.lt (unhide HU) e).2)
  have c0 := (unhide ka).cell (i := 0) (v := .slice a0 m.rooms.length p0) rfl
  have c1 := (unhide ka).cell (i := 1) (v := .slice a1 m.guilds.length p1) rfl
  have c2 := (unhide ka).cell (i := 2) (v := .slice a2 m.smiths.length p2) rfl
  have c3 := (unhide ka).cell (i := 3) (v := .slice a3 m.desks.length p3) rfl
  have c4 := (unhide ka).cell (i := 4) (v := .slice a4 m.paces.length p4) rfl
  have c5 := (unhide ka).cell (i := 5) (v := .int .i64 m.now) rfl
  go_wp2_with fail
  have hn3 : w3.heap.size ≤ w3.heap.size := Nat.le_refl _
  refine (toSmithy_full ((unhide Hv).below (unhide BB)) (unhide Hs)).mono ?_
  rintro e w4 ⟨z0, z1, z2, z3, z4, xq, rfl, ho, hb⟩
  clear c0 c1 c2 c3 c4 c5
  have k4 := ho.smy
  obtain ⟨d0, r0, rfl, _, _⟩ := IsRooms.shape k4.rooms
  obtain ⟨d1, r1, rfl, _, _⟩ := IsRec.shape k4.guilds
  obtain ⟨d2, r2, rfl, _, _⟩ := IsRec.shape k4.smiths
  obtain ⟨d3, r3, rfl, _, _⟩ := IsRec.shape k4.desks
  obtain ⟨d4, r4, rfl, _, _⟩ := IsRec.shape k4.paces
  clear k4
  replace ka := hide ((unhide ka).below hb (unhide ka).lt)
  replace HU := hide (EntsAt.later (unhide HU) hb)
  replace BB := hide ((unhide BB).trans (hb.mono (unhide BB).size))
  have HX := hide ho
  have LX : Hid (∀ k, OwnB (.slice d0 m.rooms.length r0) (.slice d1 m.guilds.length r1) (.slice d2 m.smiths.length r2) (.slice d3 m.desks.length r3) (.slice d4 m.paces.length r4) xq k → w3.heap.size ≤ k ∧ k < w4.heap.size) := hide (fun k e => ho.own e)
  have hsz4 := hb.size
  clear hb ho hn3
  go_wp2_with fail
  have hba : Below w4.heap.size w4 (w4.alloc (.cells #[.slice d0 m.rooms.length r0, .slice d1 m.guilds.length r1, .slice d2 m.smiths.length r2, .slice d3 m.desks.length r3, .slice d4 m.paces.length r4, .int .i64 m.now] 32)) := (Below.refl _ _).alloc (Nat.le_refl _) _
  replace ka := hide ((unhide ka).below hba (unhide ka).lt)
  replace HU := hide (EntsAt.later (unhide HU) hba)
  replace HX := hide ((unhide HX).below hba)
  replace BB := hide ((unhide BB).trans (hba.mono (unhide BB).size))
  have kx : Hid (Blk (w4.alloc (.cells #[.slice d0 m.rooms.length r0, .slice d1 m.guilds.length r1, .slice d2 m.smiths.length r2, .slice d3 m.desks.length r3, .slice d4 m.paces.length r4, .int .i64 m.now] 32)) w4.heap.size 32 #[.slice d0 m.rooms.length r0, .slice d1 m.guilds.length r1, .slice d2 m.smiths.length r2, .slice d3 m.desks.length r3, .slice d4 m.paces.length r4, .int .i64 m.now]) := hide (Blk.new _ _ _)
  have hszW : w4.heap.size + 1 ≤ (w4.alloc (.cells #[.slice d0 m.rooms.length r0, .slice d1 m.guilds.length r1, .slice d2 m.smiths.length r2, .slice d3 m.desks.length r3, .slice d4 m.paces.length r4, .int .i64 m.now] 32)).heap.size := by simp
  clear hba
  generalize w4.alloc (.cells #[.slice d0 m.rooms.length r0, .slice d1 m.guilds.length r1, .slice d2 m.smiths.length r2, .slice d3 m.desks.length r3, .slice d4 m.paces.length r4, .int .i64 m.now] 32) = W at *
  refine (unhide HI1 _ _ _ _ _ _ (unhide HX).smy).mono ?_
  rintro e w5 ⟨v9, rfl, ho9, hb⟩
  obtain ⟨ga, gc, rfl⟩ := EntsAt.shape ho9
  replace ka := hide ((unhide ka).below hb (unhide ka).lt)
  replace HU := hide (EntsAt.later (unhide HU) hb)
  replace HX := hide ((unhide HX).below hb)
  replace kx := hide ((unhide kx).below hb (unhide kx).lt)
  replace BB := hide ((unhide BB).trans (hb.mono (unhide BB).size))
  have HG := hide (EntsAt.mono (n₁ := w4.heap.size + 1) ho9 hszW)
  have hsz5 : w4.heap.size + 1 ≤ w5.heap.size := Nat.le_trans hszW hb.size
  clear hb ho9 hszW
  have LG : Hid (∀ k, (Value.slice ga L.length gc).ownBlock = some k → w4.heap.size < k) := hide (fun k e => Nat.lt_of_succ_le (EntsAt.lt (unhide HG) e).1)
  generalize w4.heap.size = xb at *
  go_wp2_with fail
  refine (eqEntryS_yes (EntsAt.paces (unhide HG)) (EntsAt.paces (unhide HU))).mono ?_
  rintro e w6 ⟨rfl, hb⟩
  replace ka := hide ((unhide ka).below hb (unhide ka).lt)
  replace HU := hide (EntsAt.later (unhide HU) hb)
  replace HX := hide ((unhide HX).below hb)
  replace kx := hide ((unhide kx).below hb (unhide kx).lt)
  replace HG := hide (EntsAt.later (unhide HG) hb)
  replace BB := hide ((unhide BB).trans (hb.mono (unhide BB).size))
  have hsz6 : xb + 1 ≤ w6.heap.size := Nat.le_trans hsz5 hb.size
  clear hb hsz5
  have c0 := (unhide ka).cell (i := 0) (v := .slice a0 m.rooms.length p0) rfl
  have c1 := (unhide ka).cell (i := 1) (v := .slice a1 m.guilds.length p1) rfl
  have c2 := (unhide ka).cell (i := 2) (v := .slice a2 m.smiths.length p2) rfl
  have c3 := (unhide ka).cell (i := 3) (v := .slice a3 m.desks.length p3) rfl
  have c4 := (unhide ka).cell (i := 4) (v := .slice a4 m.paces.length p4) rfl
  have c5 := (unhide ka).cell (i := 5) (v := .int .i64 m.now) rfl
  have x0 := (unhide kx).cell (i := 0) (v := .slice d0 m.rooms.length r0) rfl
  have x1 := (unhide kx).cell (i := 1) (v := .slice d1 m.guilds.length r1) rfl
  have x2 := (unhide kx).cell (i := 2) (v := .slice d2 m.smiths.length r2) rfl
  have x3 := (unhide kx).cell (i := 3) (v := .slice d3 m.desks.length r3) rfl
  have x4 := (unhide kx).cell (i := 4) (v := .slice d4 m.paces.length r4) rfl
  have x5 := (unhide kx).cell (i := 5) (v := .int .i64 m.now) rfl
  have V6 := hide ((unhide Hv).below (unhide BB))
  go_wp2_with fail
  go_upto_region 10 with fail
  go_cut [35] (fun s wc => s = .bool false ∧ Below w6.heap.size w6 wc)
  case first =>
    go_region_with (first
      | (go_at_call 30; refine (toSmithy_any (m := m) ?_ (unhide Hs)).mono ?_; exact (unhide V6).below (Below.refl _ _).drew; rintro e w7 ⟨t0, t1, t2, t3, t4, rfl, ho, hb⟩; have k7 := ho.smy; obtain ⟨f0, j0, rfl, _, _⟩ := IsRooms.shape k7.rooms; obtain ⟨f1, j1, rfl, _, _⟩ := IsRec.shape k7.guilds; obtain ⟨f2, j2, rfl, _, _⟩ := IsRec.shape k7.smiths; obtain ⟨f3, j3, rfl, _, _⟩ := IsRec.shape k7.desks; obtain ⟨f4, j4, rfl, _, _⟩ := IsRec.shape k7.paces; have K7 := hide k7; have Hb7 : Hid (Below w6.heap.size w6 w7) := hide ⟨hb.os, hb.tape, hb.output, hb.size, hb.block⟩; have kx7 := (unhide kx).below (unhide Hb7) (unhide kx).lt; have y0 := kx7.cell (i := 0) (v := .slice d0 m.rooms.length r0) rfl; have y1 := kx7.cell (i := 1) (v := .slice d1 m.guilds.length r1) rfl; have y2 := kx7.cell (i := 2) (v := .slice d2 m.smiths.length r2) rfl; have y3 := kx7.cell (i := 3) (v := .slice d3 m.desks.length r3) rfl; have y4 := kx7.cell (i := 4) (v := .slice d4 m.paces.length r4) rfl; have y5 := kx7.cell (i := 5) (v := .int .i64 m.now) rfl; clear k7 ho hb kx7)
      | (go_at_call 31; refine (eqSmithy_yes (m := m) ?_ ?_).mono ?_; exact ((unhide HX).below (unhide Hb7)).smy; exact unhide K7; rintro e w8 ⟨rfl, hb⟩; have Hb8 := hide hb; clear hb))
    all_goals
      go_wp2_with fail
      go_meet
      exact ⟨rfl, (unhide Hb7).trans ((unhide Hb8).mono (unhide Hb7).size)⟩
  case rest =>
    obtain ⟨rfl, hb⟩ := hcut
    obtain ⟨w8, rfl⟩ : ∃ x, x = wc := ⟨wc, rfl⟩
    clear c0 c1 c2 c3 c4 c5
    clear x0 x1 x2 x3 x4 x5
    replace ka := hide ((unhide ka).below hb (unhide ka).lt)
    replace HU := hide (EntsAt.later (unhide HU) hb)
    replace HX := hide ((unhide HX).below hb)
    replace kx := hide ((unhide kx).below hb (unhide kx).lt)
    replace HG := hide (EntsAt.later (unhide HG) hb)
    replace BB := hide ((unhide BB).trans (hb.mono (unhide BB).size))
    have hsz8 : xb + 1 ≤ w8.heap.size := Nat.le_trans hsz6 hb.size
    clear hb hsz6 V6
    have x0 := (unhide kx).cell (i := 0) (v := .slice d0 m.rooms.length r0) rfl
    have x1 := (unhide kx).cell (i := 1) (v := .slice d1 m.guilds.length r1) rfl
    have x2 := (unhide kx).cell (i := 2) (v := .slice d2 m.smiths.length r2) rfl
    have x3 := (unhide kx).cell (i := 3) (v := .slice d3 m.desks.length r3) rfl
    have x4 := (unhide kx).cell (i := 4) (v := .slice d4 m.paces.length r4) rfl
    have x5 := (unhide kx).cell (i := 5) (v := .int .i64 m.now) rfl
    go_wp2_with fail
    refine (markSmithy_any 1 (unhide HX) (unhide Hs) (by omega) (by omega) (by omega)).mono ?_
    rintro e w9 ⟨rfl, _, hon⟩
    clear x0 x1 x2 x3 x4 x5
    have hen := endM_bd (unhide Hs) (unhide HX).rooms
    generalize endM 1 m xq = em at *
    have hsz9 : xb + 1 ≤ w9.heap.size := Nat.le_trans hsz8 hon.size
    have hwle := (unhide BB).size
    replace HU := hide (EntsAt.same (unhide HU) fun k e => hon.at (EntsAt.lt (unhide HU) e).2 fun e9 => by have h1 := unhide LU k e; have h2 := unhide LX k e9; omega)
    replace HG := hide (EntsAt.same (unhide HG) fun k e => hon.at (EntsAt.lt (unhide HG) e).2 fun e9 => by have h1 := unhide LG k e; have h2 := unhide LX k e9; omega)
    replace ka := hide ((unhide ka).same (hon.at (unhide ka).lt fun e9 => by have h2 := unhide LX _ e9; omega))
    replace BB := hide ((unhide BB).trans (hon.below hwle (fun k e => by have h2 := unhide LX k e; omega)))
    clear hon hsz8 kx HX hwle
    have hk0 : ¬ em < 0 := by omega
    go_wp2_with fail
    refine (eqEntryS_yes (EntsAt.paces (unhide HG)) (EntsAt.paces (unhide HU))).mono ?_
    rintro e w10 ⟨rfl, hb⟩
    replace ka := hide ((unhide ka).below hb (unhide ka).lt)
    replace HU := hide (EntsAt.later (unhide HU) hb)
    replace HG := hide (EntsAt.later (unhide HG) hb)
    replace BB := hide ((unhide BB).trans (hb.mono (unhide BB).size))
    have hszA : xb + 1 ≤ w10.heap.size := Nat.le_trans hsz9 hb.size
    clear hb hsz9
    go_wp2_with fail
    refine (markEntryS_any 1 (unhide HG) (by omega) (by omega) (by omega)).mono ?_
    rintro e w11 ⟨rfl, hgm, hg⟩
    have hszB : xb + 1 ≤ w11.heap.size := Nat.le_trans hszA hg.size
    have hwle := (unhide BB).size
    replace HU := hide (EntsAt.grown (unhide HU) hg (fun k e e2 => by have h1 := unhide LU k e; have h2 := unhide LG k e2; omega))
    replace ka := hide ((unhide ka).same (hg.block _ (unhide ka).lt (fun e9 => by have h2 := unhide LG _ e9.symm; omega)))
    replace BB := hide ((unhide BB).trans ((Below.refl _ _).grown hg hwle (fun k e => by have h2 := unhide LG k e; omega)))
    replace HG := hide hgm
    clear hgm hg hszA hwle
    go_wp2_with fail
    refine (heldEntryS_yes 1 L.length (EntsAt.paces (unhide HG)) (by omega) (by omega) (by omega)).mono ?_
    rintro e w12 ⟨rfl, hw12⟩
    subst w12
    have hnn : ¬ (1 : Int) + 2 * (L.length : Int) < 0 := by omega
    have c0 := (unhide ka).cell (i := 0) (v := .slice a0 m.rooms.length p0) rfl
    have c1 := (unhide ka).cell (i := 1) (v := .slice a1 m.guilds.length p1) rfl
    have c2 := (unhide ka).cell (i := 2) (v := .slice a2 m.smiths.length p2) rfl
    have c3 := (unhide ka).cell (i := 3) (v := .slice a3 m.desks.length p3) rfl
    have c4 := (unhide ka).cell (i := 4) (v := .slice a4 m.paces.length p4) rfl
    have c5 := (unhide ka).cell (i := 5) (v := .int .i64 m.now) rfl
    go_wp2_with fail
    refine (toSmithy_any ((unhide Hv).below (unhide BB)) (unhide Hs)).mono ?_
    rintro e w13 ⟨s0, s1, s2, s3, s4, rfl, ho, hb⟩
    clear c0 c1 c2 c3 c4 c5
    have k13 := ho.smy
    obtain ⟨f0, j0, rfl, _, _⟩ := IsRooms.shape k13.rooms
    obtain ⟨f1, j1, rfl, _, _⟩ := IsRec.shape k13.guilds
    obtain ⟨f2, j2, rfl, _, _⟩ := IsRec.shape k13.smiths
    obtain ⟨f3, j3, rfl, _, _⟩ := IsRec.shape k13.desks
    obtain ⟨f4, j4, rfl, _, _⟩ := IsRec.shape k13.paces
    have K13 := hide k13
    clear k13 ho
    replace ka := hide ((unhide ka).below hb (unhide ka).lt)
    replace HU := hide (EntsAt.later (unhide HU) hb)
    replace HG := hide (EntsAt.later (unhide HG) hb)
    replace BB := hide ((unhide BB).trans (hb.mono (unhide BB).size))
    have hszC : xb + 1 ≤ w13.heap.size := Nat.le_trans hszB hb.size
    clear hb hszB
    go_wp2_with fail
    refine (unhide HI1 _ _ _ _ _ _ (unhide K13)).mono ?_
    rintro e w14 ⟨v9, rfl, ho9, hb⟩
    obtain ⟨ha9, hc9, rfl⟩ := EntsAt.shape ho9
    replace ka := hide ((unhide ka).below hb (unhide ka).lt)
    replace HU := hide (EntsAt.later (unhide HU) hb)
    replace HG := hide (EntsAt.later (unhide HG) hb)
    replace BB := hide ((unhide BB).trans (hb.mono (unhide BB).size))
    have HH := hide (EntsAt.paces ho9)
    clear hb ho9 hszC
    go_wp2_with fail
    refine (eqEntryS_yes (unhide HH) (EntsAt.paces (unhide HU))).mono ?_
    rintro e w15 ⟨rfl, hb⟩
    replace ka := hide ((unhide ka).below hb (unhide ka).lt)
    replace HU := hide (EntsAt.later (unhide HU) hb)
    replace HG := hide (EntsAt.later (unhide HG) hb)
    replace BB := hide ((unhide BB).trans (hb.mono (unhide BB).size))
    clear hb HH
    go_wp2_with fail
    refine (heldEntryS_yes 1 L.length (EntsAt.paces (unhide HG)) (by omega) (by omega) (by omega)).mono ?_
    rintro e w16 ⟨rfl, hw16⟩
    subst w16
    go_wp2_with fail
    go_ret
    exact ⟨rfl, unhide BB⟩

end Go.Proofs.YtmhagllddhjgmaaGreat

/- The walk of the exact law on At. Condition: the smithy can be read. -/
namespace Go.Proofs.YtmhagllddhjgmaaGreat
open Go.ChangeShapes Go.WideShapes Go.ChangeAt Go.RowKit Go.Sort

theorem walkFnExactAt (v0 v1 v2 v3 v4 : Value) (m : SmyV) (b : Int) (w : World) (h : Smy w v0 v1 v2 v3 v4 m) :
    Calls Tryz.prog 6 #[.agg #[v0, v1, v2, v3, v4, .int .i64 m.now], .int .i64 b] w fun e w' => e = .returned (.bool true) ∧ Below w.heap.size w w' := walkFnExactAt_of (fun w v0 v1 v2 v3 v4 m b h => specAt_any b h) implAt_any (fun m b => Nat.le_trans (smyAtV_len m b) (by omega)) v0 v1 v2 v3 v4 m b w h

end Go.Proofs.YtmhagllddhjgmaaGreat

/- What a change hands back: a smithy in memory of its own, and a code; the smithy with nothing in it; the model's l11Who. Condition: the smithy can be read. -/
namespace Go.Proofs.YtmhagllddhjgmaaGreat
open Go.ChangeShapes Go.WideShapes Go.ChangeAt Go.RowKit Go.Sort
set_option linter.unusedVariables false

set_option maxHeartbeats 2000000 in
theorem l11Who_q {w : World} {v0 v1 v2 v3 v4 : Value} {m : SmyV} {who : Int} {q : Bool} (hq : whoB m who = q) (h : Smy w v0 v1 v2 v3 v4 m) :
    Calls Tryz.prog 50 #[.agg #[v0, v1, v2, v3, v4, .int .i64 m.now], .int .i64 who] w fun e w' => e = .returned (.bool q) ∧ Below w.heap.size w w' := by
  subst hq
  obtain ⟨a0, p0, rfl, _, _⟩ := IsRooms.shape h.rooms
  obtain ⟨a1, p1, rfl, _, _⟩ := IsRec.shape h.guilds
  obtain ⟨a2, p2, rfl, hc2, hm2, r2⟩ := h.smiths
  obtain ⟨a3, p3, rfl, _, _⟩ := IsRec.shape h.desks
  obtain ⟨a4, p4, rfl, _, _⟩ := IsRec.shape h.paces
  clear h
  have Ba : Hid (Below w.heap.size w (w.alloc (.cells #[.slice a0 m.rooms.length p0, .slice a1 m.guilds.length p1, .slice a2 m.smiths.length p2, .slice a3 m.desks.length p3, .slice a4 m.paces.length p4, .int .i64 m.now] 32))) := hide ((Below.refl _ _).alloc (Nat.le_refl _) _)
  cases hi : inB who 0 ((m.smiths.length : Int) - 1)
  · have hw : whoB m who = false := by unfold whoB; rw [hi]; rfl
    have Hi := hide hi
    rw [hw]
    clear hi hw r2
    go_enter Tryz.func50, Tryz.ntmps50
    go_wp2_with (go_at_call 71; refine (l1In_any _ _ _ _).mono ?_; rw [unhide Hi]; rintro e w' ⟨rfl, h9⟩; subst w')
    go_ret
    exact ⟨rfl, unhide Ba⟩
  · obtain ⟨i0, i1⟩ := inB_of hi
    obtain ⟨k, rfl⟩ : ∃ k : Nat, who = k := ⟨who.toNat, by omega⟩
    have hk : k < m.smiths.length := by omega
    have hw : whoB m (k : Int) = !((recAt m.smiths k).1 == 0) := by unfold whoB; rw [hi]; simp
    rcases r2 with e0 | ⟨sb, off, rfl, hbw, hcl⟩
    · rw [e0] at hk; simp at hk
    obtain ⟨d0, _⟩ := smith_cells hcl hk
    have Hi := hide hi
    rw [hw]
    clear hi hw hcl
    have hk1 : (k : Int) < (m.smiths.length : Int) := by omega
    generalize (recAt m.smiths k).1 = st at *
    go_enter Tryz.func50, Tryz.ntmps50
    go_wp2_with (go_at_call 71; refine (l1In_any _ _ _ _).mono ?_; rw [unhide Hi]; rintro e w' ⟨rfl, h9⟩; subst w')
    go_ret
    exact ⟨rfl, unhide Ba⟩

end Go.Proofs.YtmhagllddhjgmaaGreat

/- What a smithy must be for what it costs and which bench is chosen to be told: lists alone. No condition but those that a theorem names. -/
namespace Go.Proofs.YtmhagllddhjgmaaGreat
open Go.ChangeShapes Go.WideShapes Go.ChangeAt Go.RowKit Go.Sort
set_option linter.unusedVariables false

structure Sane (m : SmyV) : Prop where
  hall : hallB m.rooms = true
  desks : (m.desks.length : Int) = benchSum m.rooms
  guilded : Guilded m
  few : m.smiths.length ≤ 12
theorem Loose.sane {m : SmyV} (h : Loose m) : Sane m := by
  have hd := h.head
  unfold headB at hd
  simp only [Bool.and_eq_true, decide_eq_true_eq] at hd
  obtain ⟨h1, h2, h3, h4, _⟩ := hd
  refine ⟨h1, h4, ⟨h2, fun i hi hs => ?_, fun i hi hs => (h.limits hi hs).2.1⟩, h3⟩
  have hp := (h.limits hi hs).1
  generalize recAt m.smiths i = s at *
  obtain ⟨st, be, rk, my, gu, lo', hi', hd, ca, ut, wk⟩ := s
  exact (presB_of hp).2.2.2.2.1.1
end Go.Proofs.YtmhagllddhjgmaaGreat

