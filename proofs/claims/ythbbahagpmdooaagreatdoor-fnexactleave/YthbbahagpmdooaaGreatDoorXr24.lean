/- What the proof rests on, part 24: lists and numbers, how they lie in memory, and contracts of the calls. No condition but those that a theorem names. -/
import Derived.Test.YthbbahagpmdooaaGreatDoorXr01
import Derived.Test.YthbbahagpmdooaaGreatDoorXr02
import Derived.Test.YthbbahagpmdooaaGreatDoorXr03
import Derived.Test.YthbbahagpmdooaaGreatDoorXr04
import Derived.Test.YthbbahagpmdooaaGreatDoorXr05
import Derived.Test.YthbbahagpmdooaaGreatDoorXr06
import Derived.Test.YthbbahagpmdooaaGreatDoorXr07
import Derived.Test.YthbbahagpmdooaaGreatDoorXr08
import Derived.Test.YthbbahagpmdooaaGreatDoorXr09
import Derived.Test.YthbbahagpmdooaaGreatDoorXr10
import Derived.Test.YthbbahagpmdooaaGreatDoorXr11
import Derived.Test.YthbbahagpmdooaaGreatDoorXr12
import Derived.Test.YthbbahagpmdooaaGreatDoorXr13
import Derived.Test.YthbbahagpmdooaaGreatDoorXr14
import Derived.Test.YthbbahagpmdooaaGreatDoorXr15
import Derived.Test.YthbbahagpmdooaaGreatDoorXr16
import Derived.Test.YthbbahagpmdooaaGreatDoorXr17
import Derived.Test.YthbbahagpmdooaaGreatDoorXr18
import Derived.Test.YthbbahagpmdooaaGreatDoorXr19
import Derived.Test.YthbbahagpmdooaaGreatDoorXr20
import Derived.Test.YthbbahagpmdooaaGreatDoorXr21
import Derived.Test.YthbbahagpmdooaaGreatDoorXr22
import Derived.Test.YthbbahagpmdooaaGreatDoorXr23
import Derived.Deep.RegionWith
import Derived.Deep.DeepCutAuto
import Derived.WalkMore
import Derived.Below
import Derived.ChangeKeysEq
import Derived.Laws.StructEq
import Derived.WalkKit
import Derived.ProofKit
import Derived.OpenShut
import Derived.Outline
import Derived.Lib.QuietBelow
import Derived.RangeFuncCalls
import Derived.Shelf.RegionOpen
import Derived.Deep.RegionHeld3
import Derived.Deep.DrawnRows
import Derived.BigRegion
import Derived.Deep.RegionLawGrows
import Derived.Deep.LoopGhost
import Derived.LaidEql
import Derived.Stop.Asserts
import Derived.RowKitTokens
import Derived.Deep.QuietTactic
import Derived.BigQuiet
import Derived.Laws.OwnMore
import Derived.OwnWalk
import Derived.Maps.AppendAt
import Derived.RangeFuncNested
import Derived.RangeFuncBound
import Derived.RangeFuncLeaves
import Derived.RangeFuncBox
import Derived.Shelf.Abstract
import Derived.OwnWalkIn
import Derived.TacticsInMore
import Derived.LoopNIn
import Derived.LoopIn
import Derived.Lib.SmallJoins
import Derived.Deep.Fields
import Derived.Deep.Slices
import Derived.OrdersHeld
import Derived.Deep.RegionHeldLaw
import Derived.Laws.CopyRow
/- The walk of the exact law on Leave: the program answers as the model does, twice, in memory of its own, and leaves its argument alone. Conditions: the smithy can be read; the sentinels lie in their variables. -/
namespace Go.Proofs.YthbbahagpmdooaaGreatDoor
open Go.ChangeShapes Go.WideShapes Go.ChangeAt Go.RowKit Go.Sort
set_option linter.unusedVariables false

set_option maxRecDepth 100000 in
set_option maxHeartbeats 16000000 in
theorem walkFnExactLeave_of {q : Int → Addr} (hS : (∀ (w : World) (v0 v1 v2 v3 v4 : Value) (m : SmyV) (who : Int), Smy w v0 v1 v2 v3 v4 m → Calls Tryz.prog 28 #[.agg #[v0, v1, v2, v3, v4, .int .i64 m.now], .int .i64 who] w fun e w' => GotM w.heap.size (leaveV m who).1 (leaveV m who).2 e w' ∧ Below w.heap.size w w')) (hI : (∀ (w : World) (v0 v1 v2 v3 v4 : Value) (m : SmyV) (who : Int), Errs w q → Smy w v0 v1 v2 v3 v4 m → Calls Tryz.prog 26 #[.agg #[v0, v1, v2, v3, v4, .int .i64 m.now], .int .i64 who] w fun e w' => GotM w.heap.size (leaveV m who).1 (leaveV m who).2 e w' ∧ Below w.heap.size w w')) (hlen : ∀ (m : SmyV) (who : Int), SmySmall (leaveV m who).1) (v0 v1 v2 v3 v4 : Value) (m : SmyV) (who : Int) (w : World) (her : Errs w q) (h : Smy w v0 v1 v2 v3 v4 m) :
    Calls Tryz.prog 9 #[.agg #[v0, v1, v2, v3, v4, .int .i64 m.now], .int .i64 who] w fun e w' => e = .returned (.bool true) ∧ Below w.heap.size w w' := by
  have HEr := hide her
  clear her
  have HS := hide hS
  have HI := hide hI
  clear hS hI
  have Hv := hide h
  obtain ⟨a0, p0, rfl, _, _⟩ := IsRooms.shape h.rooms
  obtain ⟨a1, p1, rfl, _, _⟩ := IsRec.shape h.guilds
  obtain ⟨a2, p2, rfl, _, _⟩ := IsRec.shape h.smiths
  obtain ⟨a3, p3, rfl, _, _⟩ := IsRec.shape h.desks
  obtain ⟨a4, p4, rfl, _, _⟩ := IsRec.shape h.paces
  clear h
  have hLs := hide (hlen m who)
  have HS1 := hide (fun W u0 u1 u2 u3 u4 => unhide HS W u0 u1 u2 u3 u4 m who)
  have HI1 := hide (fun W u0 u1 u2 u3 u4 => unhide HI W u0 u1 u2 u3 u4 m who)
  clear HS HI hlen
  obtain ⟨⟨M, cd⟩, hM⟩ : ∃ x, leaveV m who = x := ⟨_, rfl⟩
  rw [hM] at hLs HS1 HI1
  simp only at hLs HS1 HI1
  clear hM
  go_enter Tryz.func9, Tryz.ntmps9
  go_wp2_with fail
  refine (szSmithy_any ((unhide Hv).alloc _)).mono ?_
  rintro e w1 ⟨x, rfl, hx, hb⟩
  have ka : Hid (Blk w1 w.heap.size 55 #[.slice a0 m.rooms.length p0, .slice a1 m.guilds.length p1, .slice a2 m.smiths.length p2, .slice a3 m.desks.length p3, .slice a4 m.paces.length p4, .int .i64 m.now]) := hide ((Blk.new w _ _).below hb (by simp))
  have BB : Hid (Below w.heap.size w w1) := hide (((Below.refl _ _).alloc (Nat.le_refl _) _).trans (hb.mono (by simp)))
  have Hx := hide hx
  clear hx hb
  by_cases hx0 : x < 0
  · go_wp2_with fail
    go_ret
    exact ⟨rfl, unhide BB⟩
  have Hs := hide (unhide Hx (by omega))
  have HsM := hLs
  clear Hx hLs
  have c0 := (unhide ka).cell (i := 0) (v := .slice a0 m.rooms.length p0) rfl
  have c1 := (unhide ka).cell (i := 1) (v := .slice a1 m.guilds.length p1) rfl
  have c2 := (unhide ka).cell (i := 2) (v := .slice a2 m.smiths.length p2) rfl
  have c3 := (unhide ka).cell (i := 3) (v := .slice a3 m.desks.length p3) rfl
  have c4 := (unhide ka).cell (i := 4) (v := .slice a4 m.paces.length p4) rfl
  have c5 := (unhide ka).cell (i := 5) (v := .int .i64 m.now) rfl
  go_wp2_with fail
  refine (toSmithy_any ((unhide Hv).below (unhide BB)) (unhide Hs)).mono ?_
  rintro e w2 ⟨u0, u1, u2, u3, u4, rfl, ho, hb⟩
  clear c0 c1 c2 c3 c4 c5
  have k2 := ho.smy
  obtain ⟨b0, q0, rfl, _, _⟩ := IsRooms.shape k2.rooms
  obtain ⟨b1, q1, rfl, _, _⟩ := IsRec.shape k2.guilds
  obtain ⟨b2, q2, rfl, _, _⟩ := IsRec.shape k2.smiths
  obtain ⟨b3, q3, rfl, _, _⟩ := IsRec.shape k2.desks
  obtain ⟨b4, q4, rfl, _, _⟩ := IsRec.shape k2.paces
  have K2 := hide k2
  clear k2 ho
  replace ka := hide ((unhide ka).below hb (unhide ka).lt)
  replace BB := hide ((unhide BB).trans (hb.mono (unhide BB).size))
  have hw2 : w.heap.size < w2.heap.size := (unhide ka).lt
  clear hb
  go_wp2_with fail
  refine (unhide HS1 _ _ _ _ _ _ (unhide K2)).mono ?_
  rintro e w3 ⟨⟨y0, y1, y2, y3, y4, uq, rfl, ho⟩, hb⟩
  have k9 := ho.smy
  obtain ⟨ua0, uc0, rfl, _, _⟩ := IsRooms.shape k9.rooms
  obtain ⟨ua1, uc1, rfl, _, _⟩ := IsRec.shape k9.guilds
  obtain ⟨ua2, uc2, rfl, _, _⟩ := IsRec.shape k9.smiths
  obtain ⟨ua3, uc3, rfl, _, _⟩ := IsRec.shape k9.desks
  obtain ⟨ua4, uc4, rfl, _, _⟩ := IsRec.shape k9.paces
  clear k9 K2
  replace ka := hide ((unhide ka).below hb (unhide ka).lt)
  replace BB := hide ((unhide BB).trans (hb.mono (unhide BB).size))
  have HU := hide ho
  have LU : Hid (∀ k, OwnB (.slice ua0 M.rooms.length uc0) (.slice ua1 M.guilds.length uc1) (.slice ua2 M.smiths.length uc2) (.slice ua3 M.desks.length uc3) (.slice ua4 M.paces.length uc4) uq k → w2.heap.size ≤ k ∧ k < w3.heap.size) := hide (fun k e => ho.own e)
  have hw3 : w.heap.size < w3.heap.size := (unhide ka).lt
  clear ho hb
  go_upto_region 6 with fail
  have hba : Below w3.heap.size w3 (w3.alloc (.cells #[.slice ua0 M.rooms.length uc0, .slice ua1 M.guilds.length uc1, .slice ua2 M.smiths.length uc2, .slice ua3 M.desks.length uc3, .slice ua4 M.paces.length uc4, .int .i64 M.now] 32)) := (Below.refl _ _).alloc (Nat.le_refl _) _
  replace ka := hide ((unhide ka).below hba (unhide ka).lt)
  replace HU := hide ((unhide HU).below hba)
  replace BB := hide ((unhide BB).trans (hba.mono (unhide BB).size))
  have ku : Hid (Blk (w3.alloc (.cells #[.slice ua0 M.rooms.length uc0, .slice ua1 M.guilds.length uc1, .slice ua2 M.smiths.length uc2, .slice ua3 M.desks.length uc3, .slice ua4 M.paces.length uc4, .int .i64 M.now] 32)) w3.heap.size 32 #[.slice ua0 M.rooms.length uc0, .slice ua1 M.guilds.length uc1, .slice ua2 M.smiths.length uc2, .slice ua3 M.desks.length uc3, .slice ua4 M.paces.length uc4, .int .i64 M.now]) := hide (Blk.new _ _ _)
  have hsz_W3 : w3.heap.size + 1 ≤ (w3.alloc (.cells #[.slice ua0 M.rooms.length uc0, .slice ua1 M.guilds.length uc1, .slice ua2 M.smiths.length uc2, .slice ua3 M.desks.length uc3, .slice ua4 M.paces.length uc4, .int .i64 M.now] 32)).heap.size := by simp
  clear hba
  generalize w3.alloc (.cells #[.slice ua0 M.rooms.length uc0, .slice ua1 M.guilds.length uc1, .slice ua2 M.smiths.length uc2, .slice ua3 M.desks.length uc3, .slice ua4 M.paces.length uc4, .int .i64 M.now] 32) = W3 at *
  generalize w3.heap.size = ub at *
  have c0 := (unhide ka).cell (i := 0) (v := .slice a0 m.rooms.length p0) rfl
  have c1 := (unhide ka).cell (i := 1) (v := .slice a1 m.guilds.length p1) rfl
  have c2 := (unhide ka).cell (i := 2) (v := .slice a2 m.smiths.length p2) rfl
  have c3 := (unhide ka).cell (i := 3) (v := .slice a3 m.desks.length p3) rfl
  have c4 := (unhide ka).cell (i := 4) (v := .slice a4 m.paces.length p4) rfl
  have c5 := (unhide ka).cell (i := 5) (v := .int .i64 m.now) rfl
  go_wp2_with fail
  clear c0 c1 c2 c3 c4 c5
  refine (toSmithy_full ((unhide Hv).below (unhide BB)) (unhide Hs)).mono ?_
  rintro e w4 ⟨z0, z1, z2, z3, z4, xq, rfl, ho, hb⟩
  have k4 := ho.smy
  obtain ⟨d0, r0, rfl, _, _⟩ := IsRooms.shape k4.rooms
  obtain ⟨d1, r1, rfl, _, _⟩ := IsRec.shape k4.guilds
  obtain ⟨d2, r2, rfl, _, _⟩ := IsRec.shape k4.smiths
  obtain ⟨d3, r3, rfl, _, _⟩ := IsRec.shape k4.desks
  obtain ⟨d4, r4, rfl, _, _⟩ := IsRec.shape k4.paces
  clear k4
  replace ka := hide ((unhide ka).below hb (unhide ka).lt)
  replace HU := hide ((unhide HU).below hb)
  replace ku := hide ((unhide ku).below hb (unhide ku).lt)
  replace BB := hide ((unhide BB).trans (hb.mono (unhide BB).size))
  have HX := hide ho
  have LX : Hid (∀ k, OwnB (.slice d0 m.rooms.length r0) (.slice d1 m.guilds.length r1) (.slice d2 m.smiths.length r2) (.slice d3 m.desks.length r3) (.slice d4 m.paces.length r4) xq k → ub < k ∧ k < w4.heap.size) := hide (fun k e => ⟨Nat.lt_of_lt_of_le (Nat.lt_of_succ_le hsz_W3) (ho.own e).1, (ho.own e).2⟩)
  have hw4 : ub + 1 ≤ w4.heap.size := Nat.le_trans hsz_W3 hb.size
  clear ho hb hsz_W3
  go_upto_region 7 with fail
  have hba : Below w4.heap.size w4 (w4.alloc (.cells #[.slice d0 m.rooms.length r0, .slice d1 m.guilds.length r1, .slice d2 m.smiths.length r2, .slice d3 m.desks.length r3, .slice d4 m.paces.length r4, .int .i64 m.now] 32)) := (Below.refl _ _).alloc (Nat.le_refl _) _
  replace ka := hide ((unhide ka).below hba (unhide ka).lt)
  replace HU := hide ((unhide HU).below hba)
  replace ku := hide ((unhide ku).below hba (unhide ku).lt)
  replace HX := hide ((unhide HX).below hba)
  replace BB := hide ((unhide BB).trans (hba.mono (unhide BB).size))
  have kx : Hid (Blk (w4.alloc (.cells #[.slice d0 m.rooms.length r0, .slice d1 m.guilds.length r1, .slice d2 m.smiths.length r2, .slice d3 m.desks.length r3, .slice d4 m.paces.length r4, .int .i64 m.now] 32)) w4.heap.size 32 #[.slice d0 m.rooms.length r0, .slice d1 m.guilds.length r1, .slice d2 m.smiths.length r2, .slice d3 m.desks.length r3, .slice d4 m.paces.length r4, .int .i64 m.now]) := hide (Blk.new _ _ _)
  have hsz_W4 : w4.heap.size + 1 ≤ (w4.alloc (.cells #[.slice d0 m.rooms.length r0, .slice d1 m.guilds.length r1, .slice d2 m.smiths.length r2, .slice d3 m.desks.length r3, .slice d4 m.paces.length r4, .int .i64 m.now] 32)).heap.size := by simp
  clear hba
  generalize w4.alloc (.cells #[.slice d0 m.rooms.length r0, .slice d1 m.guilds.length r1, .slice d2 m.smiths.length r2, .slice d3 m.desks.length r3, .slice d4 m.paces.length r4, .int .i64 m.now] 32) = W4 at *
  generalize w4.heap.size = xb at *
  have x0 := (unhide kx).cell (i := 0) (v := .slice d0 m.rooms.length r0) rfl
  have x1 := (unhide kx).cell (i := 1) (v := .slice d1 m.guilds.length r1) rfl
  have x2 := (unhide kx).cell (i := 2) (v := .slice d2 m.smiths.length r2) rfl
  have x3 := (unhide kx).cell (i := 3) (v := .slice d3 m.desks.length r3) rfl
  have x4 := (unhide kx).cell (i := 4) (v := .slice d4 m.paces.length r4) rfl
  have x5 := (unhide kx).cell (i := 5) (v := .int .i64 m.now) rfl
  go_wp2_with fail
  clear x0 x1 x2 x3 x4 x5
  refine (unhide HI1 _ _ _ _ _ _ ((unhide HEr).below (unhide BB)) (unhide HX).smy).mono ?_
  rintro e w5 ⟨⟨y0, y1, y2, y3, y4, gq, rfl, ho⟩, hb⟩
  have k9 := ho.smy
  obtain ⟨ga0, gc0, rfl, _, _⟩ := IsRooms.shape k9.rooms
  obtain ⟨ga1, gc1, rfl, _, _⟩ := IsRec.shape k9.guilds
  obtain ⟨ga2, gc2, rfl, _, _⟩ := IsRec.shape k9.smiths
  obtain ⟨ga3, gc3, rfl, _, _⟩ := IsRec.shape k9.desks
  obtain ⟨ga4, gc4, rfl, _, _⟩ := IsRec.shape k9.paces
  clear k9
  replace ka := hide ((unhide ka).below hb (unhide ka).lt)
  replace HU := hide ((unhide HU).below hb)
  replace ku := hide ((unhide ku).below hb (unhide ku).lt)
  replace HX := hide ((unhide HX).below hb)
  replace kx := hide ((unhide kx).below hb (unhide kx).lt)
  replace BB := hide ((unhide BB).trans (hb.mono (unhide BB).size))
  have HG := hide ho
  have LG : Hid (∀ k, OwnB (.slice ga0 M.rooms.length gc0) (.slice ga1 M.guilds.length gc1) (.slice ga2 M.smiths.length gc2) (.slice ga3 M.desks.length gc3) (.slice ga4 M.paces.length gc4) gq k → xb < k ∧ k < w5.heap.size) := hide (fun k e => ⟨Nat.lt_of_lt_of_le (Nat.lt_of_succ_le hsz_W4) (ho.own e).1, (ho.own e).2⟩)
  have hw5 : xb + 1 ≤ w5.heap.size := Nat.le_trans hsz_W4 hb.size
  clear ho hb hsz_W4
  have x0 := (unhide ku).cell (i := 0) (v := .slice ua0 M.rooms.length uc0) rfl
  have x1 := (unhide ku).cell (i := 1) (v := .slice ua1 M.guilds.length uc1) rfl
  have x2 := (unhide ku).cell (i := 2) (v := .slice ua2 M.smiths.length uc2) rfl
  have x3 := (unhide ku).cell (i := 3) (v := .slice ua3 M.desks.length uc3) rfl
  have x4 := (unhide ku).cell (i := 4) (v := .slice ua4 M.paces.length uc4) rfl
  have x5 := (unhide ku).cell (i := 5) (v := .int .i64 M.now) rfl
  go_upto_region 8 with fail
  clear x0 x1 x2 x3 x4 x5
  have hba : Below w5.heap.size w5 (w5.alloc (.cells #[.slice ga0 M.rooms.length gc0, .slice ga1 M.guilds.length gc1, .slice ga2 M.smiths.length gc2, .slice ga3 M.desks.length gc3, .slice ga4 M.paces.length gc4, .int .i64 M.now] 32)) := (Below.refl _ _).alloc (Nat.le_refl _) _
  replace ka := hide ((unhide ka).below hba (unhide ka).lt)
  replace HU := hide ((unhide HU).below hba)
  replace ku := hide ((unhide ku).below hba (unhide ku).lt)
  replace HX := hide ((unhide HX).below hba)
  replace kx := hide ((unhide kx).below hba (unhide kx).lt)
  replace HG := hide ((unhide HG).below hba)
  replace BB := hide ((unhide BB).trans (hba.mono (unhide BB).size))
  have kg : Hid (Blk (w5.alloc (.cells #[.slice ga0 M.rooms.length gc0, .slice ga1 M.guilds.length gc1, .slice ga2 M.smiths.length gc2, .slice ga3 M.desks.length gc3, .slice ga4 M.paces.length gc4, .int .i64 M.now] 32)) w5.heap.size 32 #[.slice ga0 M.rooms.length gc0, .slice ga1 M.guilds.length gc1, .slice ga2 M.smiths.length gc2, .slice ga3 M.desks.length gc3, .slice ga4 M.paces.length gc4, .int .i64 M.now]) := hide (Blk.new _ _ _)
  have hsz_W5 : w5.heap.size + 1 ≤ (w5.alloc (.cells #[.slice ga0 M.rooms.length gc0, .slice ga1 M.guilds.length gc1, .slice ga2 M.smiths.length gc2, .slice ga3 M.desks.length gc3, .slice ga4 M.paces.length gc4, .int .i64 M.now] 32)).heap.size := by simp
  clear hba
  generalize w5.alloc (.cells #[.slice ga0 M.rooms.length gc0, .slice ga1 M.guilds.length gc1, .slice ga2 M.smiths.length gc2, .slice ga3 M.desks.length gc3, .slice ga4 M.paces.length gc4, .int .i64 M.now] 32) = W5 at *
  generalize w5.heap.size = gb at *
  clear hsz_W5
  have x0 := (unhide ku).cell (i := 0) (v := .slice ua0 M.rooms.length uc0) rfl
  have x1 := (unhide ku).cell (i := 1) (v := .slice ua1 M.guilds.length uc1) rfl
  have x2 := (unhide ku).cell (i := 2) (v := .slice ua2 M.smiths.length uc2) rfl
  have x3 := (unhide ku).cell (i := 3) (v := .slice ua3 M.desks.length uc3) rfl
  have x4 := (unhide ku).cell (i := 4) (v := .slice ua4 M.paces.length uc4) rfl
  have x5 := (unhide ku).cell (i := 5) (v := .int .i64 M.now) rfl
  have y0 := (unhide kg).cell (i := 0) (v := .slice ga0 M.rooms.length gc0) rfl
  have y1 := (unhide kg).cell (i := 1) (v := .slice ga1 M.guilds.length gc1) rfl
  have y2 := (unhide kg).cell (i := 2) (v := .slice ga2 M.smiths.length gc2) rfl
  have y3 := (unhide kg).cell (i := 3) (v := .slice ga3 M.desks.length gc3) rfl
  have y4 := (unhide kg).cell (i := 4) (v := .slice ga4 M.paces.length gc4) rfl
  have y5 := (unhide kg).cell (i := 5) (v := .int .i64 M.now) rfl
  go_wp2_with fail
  clear x0 x1 x2 x3 x4 x5 y0 y1 y2 y3 y4 y5
  refine (eqSmithy_yes (unhide HG).smy (unhide HU).smy).mono ?_
  rintro e w6 ⟨rfl, hb⟩
  replace ka := hide ((unhide ka).below hb (unhide ka).lt)
  replace HU := hide ((unhide HU).below hb)
  replace ku := hide ((unhide ku).below hb (unhide ku).lt)
  replace HX := hide ((unhide HX).below hb)
  replace kx := hide ((unhide kx).below hb (unhide kx).lt)
  replace HG := hide ((unhide HG).below hb)
  replace kg := hide ((unhide kg).below hb (unhide kg).lt)
  replace BB := hide ((unhide BB).trans (hb.mono (unhide BB).size))
  clear hb
  have c0 := (unhide ka).cell (i := 0) (v := .slice a0 m.rooms.length p0) rfl
  have c1 := (unhide ka).cell (i := 1) (v := .slice a1 m.guilds.length p1) rfl
  have c2 := (unhide ka).cell (i := 2) (v := .slice a2 m.smiths.length p2) rfl
  have c3 := (unhide ka).cell (i := 3) (v := .slice a3 m.desks.length p3) rfl
  have c4 := (unhide ka).cell (i := 4) (v := .slice a4 m.paces.length p4) rfl
  have c5 := (unhide ka).cell (i := 5) (v := .int .i64 m.now) rfl
  have x0 := (unhide kx).cell (i := 0) (v := .slice d0 m.rooms.length r0) rfl
  have x1 := (unhide kx).cell (i := 1) (v := .slice d1 m.guilds.length r1) rfl
  have x2 := (unhide kx).cell (i := 2) (v := .slice d2 m.smiths.length r2) rfl
  have x3 := (unhide kx).cell (i := 3) (v := .slice d3 m.desks.length r3) rfl
  have x4 := (unhide kx).cell (i := 4) (v := .slice d4 m.paces.length r4) rfl
  have x5 := (unhide kx).cell (i := 5) (v := .int .i64 m.now) rfl
  have V6 := hide ((unhide Hv).below (unhide BB))
  go_upto_region 10 with fail
  go_cut [49] (fun s wc => s = .bool false ∧ Below w6.heap.size w6 wc)
  case first =>
    go_region_with (first
      | (go_at_call 30; refine (toSmithy_any (m := m) ?_ (unhide Hs)).mono ?_; exact (unhide V6).below (Below.refl _ _).drew; rintro e w7 ⟨t0, t1, t2, t3, t4, rfl, ho, hb⟩; have k7 := ho.smy; obtain ⟨f0, j0, rfl, _, _⟩ := IsRooms.shape k7.rooms; obtain ⟨f1, j1, rfl, _, _⟩ := IsRec.shape k7.guilds; obtain ⟨f2, j2, rfl, _, _⟩ := IsRec.shape k7.smiths; obtain ⟨f3, j3, rfl, _, _⟩ := IsRec.shape k7.desks; obtain ⟨f4, j4, rfl, _, _⟩ := IsRec.shape k7.paces; have K7 := hide k7; have Hb7 : Hid (Below w6.heap.size w6 w7) := hide ⟨hb.os, hb.tape, hb.output, hb.size, hb.block⟩; have kx7 := (unhide kx).below (unhide Hb7) (unhide kx).lt; have y0 := kx7.cell (i := 0) (v := .slice d0 m.rooms.length r0) rfl; have y1 := kx7.cell (i := 1) (v := .slice d1 m.guilds.length r1) rfl; have y2 := kx7.cell (i := 2) (v := .slice d2 m.smiths.length r2) rfl; have y3 := kx7.cell (i := 3) (v := .slice d3 m.desks.length r3) rfl; have y4 := kx7.cell (i := 4) (v := .slice d4 m.paces.length r4) rfl; have y5 := kx7.cell (i := 5) (v := .int .i64 m.now) rfl; clear k7 ho hb kx7)
      | (go_at_call 31; refine (eqSmithy_yes (m := m) ?_ ?_).mono ?_; exact ((unhide HX).below (unhide Hb7)).smy; exact unhide K7; rintro e w8 ⟨rfl, hb⟩; have Hb8 := hide hb; clear hb))
    all_goals
      go_wp2_with fail
      go_meet
      exact ⟨rfl, (unhide Hb7).trans ((unhide Hb8).mono (unhide Hb7).size)⟩
  case rest =>
    obtain ⟨rfl, hb⟩ := hcut
    obtain ⟨w8, rfl⟩ : ∃ x, x = wc := ⟨wc, rfl⟩
    clear c0 c1 c2 c3 c4 c5 x0 x1 x2 x3 x4 x5
    replace ka := hide ((unhide ka).below hb (unhide ka).lt)
    replace HU := hide ((unhide HU).below hb)
    replace ku := hide ((unhide ku).below hb (unhide ku).lt)
    replace HX := hide ((unhide HX).below hb)
    replace kx := hide ((unhide kx).below hb (unhide kx).lt)
    replace HG := hide ((unhide HG).below hb)
    replace kg := hide ((unhide kg).below hb (unhide kg).lt)
    replace BB := hide ((unhide BB).trans (hb.mono (unhide BB).size))
    clear hb V6
    have x0 := (unhide kx).cell (i := 0) (v := .slice d0 m.rooms.length r0) rfl
    have x1 := (unhide kx).cell (i := 1) (v := .slice d1 m.guilds.length r1) rfl
    have x2 := (unhide kx).cell (i := 2) (v := .slice d2 m.smiths.length r2) rfl
    have x3 := (unhide kx).cell (i := 3) (v := .slice d3 m.desks.length r3) rfl
    have x4 := (unhide kx).cell (i := 4) (v := .slice d4 m.paces.length r4) rfl
    have x5 := (unhide kx).cell (i := 5) (v := .int .i64 m.now) rfl
    go_wp2_with fail
    clear x0 x1 x2 x3 x4 x5
    refine (markSmithy_any 1 ((unhide HX).mono (n₁ := 0) (Nat.zero_le _)) (unhide Hs) (Nat.zero_le _) (by omega) (by omega)).mono ?_
    rintro e w9 ⟨rfl, _, hon⟩
    have hen := endM_bd (unhide Hs) (unhide HX).rooms
    generalize endM 1 m xq = em at *
    have hwle := (unhide BB).size
    replace HU := hide ((unhide HU).keep fun k e => hon.at ((unhide HU).own e).2 fun e9 => by have h1 := unhide LU k e; have h2 := unhide LX k e9; omega)
    replace HG := hide ((unhide HG).keep fun k e => hon.at ((unhide HG).own e).2 fun e9 => by have h1 := unhide LG k e; have h2 := unhide LX k e9; omega)
    replace ku := hide ((unhide ku).same (hon.at (unhide ku).lt fun e9 => by have h2 := unhide LX _ e9; omega))
    replace kg := hide ((unhide kg).same (hon.at (unhide kg).lt fun e9 => by have h2 := unhide LX _ e9; omega))
    replace ka := hide ((unhide ka).same (hon.at (unhide ka).lt fun e9 => by have h2 := unhide LX _ e9; omega))
    replace BB := hide ((unhide BB).trans (hon.below hwle (fun k e => by have h2 := unhide LX k e; omega)))
    clear hon kx HX hwle
    have hk0 : ¬ em < 0 := by omega
    have x0 := (unhide ku).cell (i := 0) (v := .slice ua0 M.rooms.length uc0) rfl
    have x1 := (unhide ku).cell (i := 1) (v := .slice ua1 M.guilds.length uc1) rfl
    have x2 := (unhide ku).cell (i := 2) (v := .slice ua2 M.smiths.length uc2) rfl
    have x3 := (unhide ku).cell (i := 3) (v := .slice ua3 M.desks.length uc3) rfl
    have x4 := (unhide ku).cell (i := 4) (v := .slice ua4 M.paces.length uc4) rfl
    have x5 := (unhide ku).cell (i := 5) (v := .int .i64 M.now) rfl
    have y0 := (unhide kg).cell (i := 0) (v := .slice ga0 M.rooms.length gc0) rfl
    have y1 := (unhide kg).cell (i := 1) (v := .slice ga1 M.guilds.length gc1) rfl
    have y2 := (unhide kg).cell (i := 2) (v := .slice ga2 M.smiths.length gc2) rfl
    have y3 := (unhide kg).cell (i := 3) (v := .slice ga3 M.desks.length gc3) rfl
    have y4 := (unhide kg).cell (i := 4) (v := .slice ga4 M.paces.length gc4) rfl
    have y5 := (unhide kg).cell (i := 5) (v := .int .i64 M.now) rfl
    go_wp2_with fail
    clear x0 x1 x2 x3 x4 x5 y0 y1 y2 y3 y4 y5
    refine (eqSmithy_yes (unhide HG).smy (unhide HU).smy).mono ?_
    rintro e w10 ⟨rfl, hb⟩
    replace ka := hide ((unhide ka).below hb (unhide ka).lt)
    replace HU := hide ((unhide HU).below hb)
    replace ku := hide ((unhide ku).below hb (unhide ku).lt)
    replace HG := hide ((unhide HG).below hb)
    replace kg := hide ((unhide kg).below hb (unhide kg).lt)
    replace BB := hide ((unhide BB).trans (hb.mono (unhide BB).size))
    clear hb
    have y0 := (unhide kg).cell (i := 0) (v := .slice ga0 M.rooms.length gc0) rfl
    have y1 := (unhide kg).cell (i := 1) (v := .slice ga1 M.guilds.length gc1) rfl
    have y2 := (unhide kg).cell (i := 2) (v := .slice ga2 M.smiths.length gc2) rfl
    have y3 := (unhide kg).cell (i := 3) (v := .slice ga3 M.desks.length gc3) rfl
    have y4 := (unhide kg).cell (i := 4) (v := .slice ga4 M.paces.length gc4) rfl
    have y5 := (unhide kg).cell (i := 5) (v := .int .i64 M.now) rfl
    go_wp2_with fail
    clear y0 y1 y2 y3 y4 y5
    refine (markSmithy_any 1 ((unhide HG).mono (n₁ := 0) (Nat.zero_le _)) (unhide HsM) (Nat.zero_le _) (by omega) (by omega)).mono ?_
    rintro e w11 ⟨rfl, hgm, hon⟩
    have hgr := (unhide HG).rooms
    have hen2 := endM_bd (unhide HsM) hgr
    have hwle := (unhide BB).size
    replace HU := hide ((unhide HU).keep fun k e => hon.at ((unhide HU).own e).2 fun e9 => by have h1 := unhide LU k e; have h2 := unhide LG k e9; omega)
    replace ku := hide ((unhide ku).same (hon.at (unhide ku).lt fun e9 => by have h2 := unhide LG _ e9; omega))
    replace kg := hide ((unhide kg).same (hon.at (unhide kg).lt fun e9 => by have h2 := unhide LG _ e9; omega))
    replace ka := hide ((unhide ka).same (hon.at (unhide ka).lt fun e9 => by have h2 := unhide LG _ e9; omega))
    replace BB := hide ((unhide BB).trans (hon.below hwle (fun k e => by have h2 := unhide LG k e; omega)))
    replace HG := hide hgm
    have Hgr := hide hgr
    clear hgm hon hwle hgr
    have y0 := (unhide kg).cell (i := 0) (v := .slice ga0 M.rooms.length gc0) rfl
    have y1 := (unhide kg).cell (i := 1) (v := .slice ga1 M.guilds.length gc1) rfl
    have y2 := (unhide kg).cell (i := 2) (v := .slice ga2 M.smiths.length gc2) rfl
    have y3 := (unhide kg).cell (i := 3) (v := .slice ga3 M.desks.length gc3) rfl
    have y4 := (unhide kg).cell (i := 4) (v := .slice ga4 M.paces.length gc4) rfl
    have y5 := (unhide kg).cell (i := 5) (v := .int .i64 M.now) rfl
    go_wp2_with fail
    clear y0 y1 y2 y3 y4 y5
    refine (heldSmithy_yes 1 (unhide HG) (unhide HsM).rooms (unhide Hgr) (unhide HsM) (by omega) (by omega)).mono ?_
    rintro e w12 ⟨rfl, hb⟩
    replace ka := hide ((unhide ka).below hb (unhide ka).lt)
    replace HU := hide ((unhide HU).below hb)
    replace ku := hide ((unhide ku).below hb (unhide ku).lt)
    replace HG := hide ((unhide HG).below hb)
    replace kg := hide ((unhide kg).below hb (unhide kg).lt)
    replace BB := hide ((unhide BB).trans (hb.mono (unhide BB).size))
    clear hb
    have Hen2 := hide hen2
    obtain ⟨en, hene⟩ : ∃ x, endM 1 M gq = x := ⟨_, rfl⟩
    have hnn : ¬ en < 0 := by rw [← hene]; omega
    have Hene := hide hene
    rw [hene]
    clear hene hen2
    have c0 := (unhide ka).cell (i := 0) (v := .slice a0 m.rooms.length p0) rfl
    have c1 := (unhide ka).cell (i := 1) (v := .slice a1 m.guilds.length p1) rfl
    have c2 := (unhide ka).cell (i := 2) (v := .slice a2 m.smiths.length p2) rfl
    have c3 := (unhide ka).cell (i := 3) (v := .slice a3 m.desks.length p3) rfl
    have c4 := (unhide ka).cell (i := 4) (v := .slice a4 m.paces.length p4) rfl
    have c5 := (unhide ka).cell (i := 5) (v := .int .i64 m.now) rfl
    go_wp2_with fail
    clear c0 c1 c2 c3 c4 c5
    refine (toSmithy_any ((unhide Hv).below (unhide BB)) (unhide Hs)).mono ?_
    rintro e w13 ⟨s0, s1, s2, s3, s4, rfl, ho, hb⟩
    have k13 := ho.smy
    obtain ⟨f0, j0, rfl, _, _⟩ := IsRooms.shape k13.rooms
    obtain ⟨f1, j1, rfl, _, _⟩ := IsRec.shape k13.guilds
    obtain ⟨f2, j2, rfl, _, _⟩ := IsRec.shape k13.smiths
    obtain ⟨f3, j3, rfl, _, _⟩ := IsRec.shape k13.desks
    obtain ⟨f4, j4, rfl, _, _⟩ := IsRec.shape k13.paces
    have K13 := hide k13
    clear k13 ho
    replace ka := hide ((unhide ka).below hb (unhide ka).lt)
    replace HU := hide ((unhide HU).below hb)
    replace ku := hide ((unhide ku).below hb (unhide ku).lt)
    replace HG := hide ((unhide HG).below hb)
    replace kg := hide ((unhide kg).below hb (unhide kg).lt)
    replace BB := hide ((unhide BB).trans (hb.mono (unhide BB).size))
    clear hb
    go_wp2_with fail
    refine (unhide HI1 _ _ _ _ _ _ ((unhide HEr).below (unhide BB)) (unhide K13)).mono ?_
    rintro e w14 ⟨⟨y0, y1, y2, y3, y4, hq, rfl, ho⟩, hb⟩
    have k9 := ho.smy
    obtain ⟨ha0, hc0, rfl, _, _⟩ := IsRooms.shape k9.rooms
    obtain ⟨ha1, hc1, rfl, _, _⟩ := IsRec.shape k9.guilds
    obtain ⟨ha2, hc2, rfl, _, _⟩ := IsRec.shape k9.smiths
    obtain ⟨ha3, hc3, rfl, _, _⟩ := IsRec.shape k9.desks
    obtain ⟨ha4, hc4, rfl, _, _⟩ := IsRec.shape k9.paces
    clear ho K13
    replace ka := hide ((unhide ka).below hb (unhide ka).lt)
    replace HU := hide ((unhide HU).below hb)
    replace ku := hide ((unhide ku).below hb (unhide ku).lt)
    replace HG := hide ((unhide HG).below hb)
    replace kg := hide ((unhide kg).below hb (unhide kg).lt)
    replace BB := hide ((unhide BB).trans (hb.mono (unhide BB).size))
    have HH := hide k9
    clear k9 hb
    go_upto_region 25 with fail
    have hba : Below w14.heap.size w14 (w14.alloc (.cells #[.slice ha0 M.rooms.length hc0, .slice ha1 M.guilds.length hc1, .slice ha2 M.smiths.length hc2, .slice ha3 M.desks.length hc3, .slice ha4 M.paces.length hc4, .int .i64 M.now] 32)) := (Below.refl _ _).alloc (Nat.le_refl _) _
    replace ka := hide ((unhide ka).below hba (unhide ka).lt)
    replace HU := hide ((unhide HU).below hba)
    replace ku := hide ((unhide ku).below hba (unhide ku).lt)
    replace HG := hide ((unhide HG).below hba)
    replace kg := hide ((unhide kg).below hba (unhide kg).lt)
    replace HH := hide ((unhide HH).below hba)
    replace BB := hide ((unhide BB).trans (hba.mono (unhide BB).size))
    have kh : Hid (Blk (w14.alloc (.cells #[.slice ha0 M.rooms.length hc0, .slice ha1 M.guilds.length hc1, .slice ha2 M.smiths.length hc2, .slice ha3 M.desks.length hc3, .slice ha4 M.paces.length hc4, .int .i64 M.now] 32)) w14.heap.size 32 #[.slice ha0 M.rooms.length hc0, .slice ha1 M.guilds.length hc1, .slice ha2 M.smiths.length hc2, .slice ha3 M.desks.length hc3, .slice ha4 M.paces.length hc4, .int .i64 M.now]) := hide (Blk.new _ _ _)
    have hsz_W14 : w14.heap.size + 1 ≤ (w14.alloc (.cells #[.slice ha0 M.rooms.length hc0, .slice ha1 M.guilds.length hc1, .slice ha2 M.smiths.length hc2, .slice ha3 M.desks.length hc3, .slice ha4 M.paces.length hc4, .int .i64 M.now] 32)).heap.size := by simp
    clear hba
    generalize w14.alloc (.cells #[.slice ha0 M.rooms.length hc0, .slice ha1 M.guilds.length hc1, .slice ha2 M.smiths.length hc2, .slice ha3 M.desks.length hc3, .slice ha4 M.paces.length hc4, .int .i64 M.now] 32) = W14 at *
    generalize w14.heap.size = hb2 at *
    clear hsz_W14
    have x0 := (unhide ku).cell (i := 0) (v := .slice ua0 M.rooms.length uc0) rfl
    have x1 := (unhide ku).cell (i := 1) (v := .slice ua1 M.guilds.length uc1) rfl
    have x2 := (unhide ku).cell (i := 2) (v := .slice ua2 M.smiths.length uc2) rfl
    have x3 := (unhide ku).cell (i := 3) (v := .slice ua3 M.desks.length uc3) rfl
    have x4 := (unhide ku).cell (i := 4) (v := .slice ua4 M.paces.length uc4) rfl
    have x5 := (unhide ku).cell (i := 5) (v := .int .i64 M.now) rfl
    have y0 := (unhide kh).cell (i := 0) (v := .slice ha0 M.rooms.length hc0) rfl
    have y1 := (unhide kh).cell (i := 1) (v := .slice ha1 M.guilds.length hc1) rfl
    have y2 := (unhide kh).cell (i := 2) (v := .slice ha2 M.smiths.length hc2) rfl
    have y3 := (unhide kh).cell (i := 3) (v := .slice ha3 M.desks.length hc3) rfl
    have y4 := (unhide kh).cell (i := 4) (v := .slice ha4 M.paces.length hc4) rfl
    have y5 := (unhide kh).cell (i := 5) (v := .int .i64 M.now) rfl
    go_wp2_with fail
    clear x0 x1 x2 x3 x4 x5 y0 y1 y2 y3 y4 y5
    refine (eqSmithy_yes (unhide HH) (unhide HU).smy).mono ?_
    rintro e w15 ⟨rfl, hb⟩
    replace ka := hide ((unhide ka).below hb (unhide ka).lt)
    replace HU := hide ((unhide HU).below hb)
    replace ku := hide ((unhide ku).below hb (unhide ku).lt)
    replace HG := hide ((unhide HG).below hb)
    replace kg := hide ((unhide kg).below hb (unhide kg).lt)
    replace HH := hide ((unhide HH).below hb)
    replace kh := hide ((unhide kh).below hb (unhide kh).lt)
    replace BB := hide ((unhide BB).trans (hb.mono (unhide BB).size))
    clear hb
    have y0 := (unhide kg).cell (i := 0) (v := .slice ga0 M.rooms.length gc0) rfl
    have y1 := (unhide kg).cell (i := 1) (v := .slice ga1 M.guilds.length gc1) rfl
    have y2 := (unhide kg).cell (i := 2) (v := .slice ga2 M.smiths.length gc2) rfl
    have y3 := (unhide kg).cell (i := 3) (v := .slice ga3 M.desks.length gc3) rfl
    have y4 := (unhide kg).cell (i := 4) (v := .slice ga4 M.paces.length gc4) rfl
    have y5 := (unhide kg).cell (i := 5) (v := .int .i64 M.now) rfl
    go_wp2_with fail
    clear y0 y1 y2 y3 y4 y5
    refine (heldSmithy_yes 1 (unhide HG) (unhide HsM).rooms (unhide Hgr) (unhide HsM) (by omega) (by omega)).mono ?_
    rw [unhide Hene]
    rintro e w16 ⟨rfl, hb⟩
    replace ka := hide ((unhide ka).below hb (unhide ka).lt)
    replace HU := hide ((unhide HU).below hb)
    replace ku := hide ((unhide ku).below hb (unhide ku).lt)
    replace HG := hide ((unhide HG).below hb)
    replace kg := hide ((unhide kg).below hb (unhide kg).lt)
    replace HH := hide ((unhide HH).below hb)
    replace kh := hide ((unhide kh).below hb (unhide kh).lt)
    replace BB := hide ((unhide BB).trans (hb.mono (unhide BB).size))
    clear hb
    go_wp2_with fail
    go_ret
    exact ⟨rfl, unhide BB⟩

theorem walkFnExactLeave (v0 v1 v2 v3 v4 : Value) (m : SmyV) (who : Int) (w : World) (h : Smy w v0 v1 v2 v3 v4 m) (her : ∃ q, Errs w q) :
    Calls Tryz.prog 9 #[.agg #[v0, v1, v2, v3, v4, .int .i64 m.now], .int .i64 who] w fun e w' => e = .returned (.bool true) ∧ Below w.heap.size w w' := by
  obtain ⟨q, he⟩ := her
  exact walkFnExactLeave_of (fun _ _ _ _ _ _ _ who h => specLeave_any who h) (fun _ _ _ _ _ _ _ who he h => implLeave_any who he h) (fun m who => leave_small m who) v0 v1 v2 v3 v4 m who w he h

end Go.Proofs.YthbbahagpmdooaaGreatDoor

