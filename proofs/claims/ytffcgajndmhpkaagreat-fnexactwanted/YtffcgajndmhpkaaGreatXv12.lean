/- What the proof rests on, part 12: lists and numbers, how they lie in memory, and contracts of the calls. No condition but those that a theorem names. -/
import Derived.Test.YtffcgajndmhpkaaGreatXv01
import Derived.Test.YtffcgajndmhpkaaGreatXv02
import Derived.Test.YtffcgajndmhpkaaGreatXv03
import Derived.Test.YtffcgajndmhpkaaGreatXv04
import Derived.Test.YtffcgajndmhpkaaGreatXv05
import Derived.Test.YtffcgajndmhpkaaGreatXv06
import Derived.Test.YtffcgajndmhpkaaGreatXv07
import Derived.Test.YtffcgajndmhpkaaGreatXv08
import Derived.Test.YtffcgajndmhpkaaGreatXv09
import Derived.Test.YtffcgajndmhpkaaGreatXv10
import Derived.Test.YtffcgajndmhpkaaGreatXv11
import Derived.Deep.RegionWith
import Derived.Lib.SmallJoins
import Derived.Deep.SlicePairs
import Derived.WalkMore
import Derived.Below
import Derived.ChangeKeysEq
import Derived.Laws.StructEq
import GoSem.Claim
import GoSem.ClaimJoined
import GoSem.ClaimMapViews
import Derived.JoinedTies
import Derived.KernelRfl
import Derived.RowKit
import Derived.WalkKit
import Derived.ProofKit
import Derived.OpenShut
import Derived.Outline
import Derived.Lib.QuietBelow
import Derived.RangeFuncCalls
import Derived.Shelf.RegionOpen
import Derived.Deep.RegionHeld3
import Derived.Deep.DrawnRows
import Derived.BigRegion
import Derived.Deep.RegionLawGrows
import Derived.Deep.LoopGhost
import Derived.Deep.QuietTactic
import Derived.BigQuiet
import Derived.Laws.OwnMore
import Derived.OwnWalk
import Derived.Maps.AppendAt
import Derived.RangeFuncNested
import Derived.RangeFuncBound
import Derived.RangeFuncLeaves
import Derived.RangeFuncBox
import Derived.Shelf.Abstract
import Derived.OwnWalkIn
import Derived.TacticsInMore
import Derived.LoopNIn
import Derived.LoopIn
import Derived.Deep.Fields
import Derived.Deep.Slices
import Derived.OrdersHeld
import Derived.Deep.RegionHeldLaw
import Derived.Deep.DeepCutAuto
/- Contracts of Wanted, the program's and the model's: each answers what the lists say. Condition: the smithy can be read. -/
namespace Go.Proofs.YtffcgajndmhpkaaGreat
open Go.ChangeShapes Go.WideShapes Go.ChangeAt Go.RowKit Go.Sort Go.Shelf
set_option linter.unusedVariables false
set_option maxRecDepth 100000

def wantedOfV (m : SmyV) (r : Int) : Int := if smyB m && isRoomB m r then wantedV m r.toNat else -1
theorem needIn_yes {m : SmyV} {r : Int} (h : smyB m = true) (hr : isRoomB m r = true) : needInV m r = (usedIn m r m.desks.length).1 := by unfold needInV; rw [h, hr]; rfl
theorem need_neg {m : SmyV} {r : Int} : needInV m r = -1 ↔ (smyB m && isRoomB m r) = false := by
  unfold needInV
  constructor
  · intro h
    cases hb : (smyB m && isRoomB m r)
    · rfl
    · rw [hb, if_pos rfl] at h
      simp only [Bool.and_eq_true] at hb
      have := usedIn_bd m r (smy_twelve (smy_loose hb.1)) m.desks.length
      omega
  · intro h
    rw [h]
    simp
set_option maxHeartbeats 8000000 in
theorem specWanted_any {w : World} {v0 v1 v2 v3 v4 : Value} {m : SmyV} {room q : Int} (hq : wantedOfV m room = q) (h : Smy w v0 v1 v2 v3 v4 m) : Calls Tryz.prog 5 #[.agg #[v0, v1, v2, v3, v4, .int .i64 m.now], .int .i64 room] w fun e w' => e = .returned (.int .i64 q) ∧ Below w.heap.size w w' := by
  have Hq := hide hq
  clear hq
  obtain ⟨ok, hok⟩ : ∃ q, smyB m = q := ⟨_, rfl⟩
  have Hok := hide hok
  clear hok
  obtain ⟨a0, p0, a1, p1, a2, p2, a3, p3, a4, p4, rfl, rfl, rfl, rfl, rfl, K⟩ := Bx.new h
  clear h
  go_enter Tryz.func5, Tryz.ntmps5
  go_wp2_with fail
  generalize w.alloc (.cells #[.slice a0 m.rooms.length p0, .slice a1 m.guilds.length p1, .slice a2 m.smiths.length p2, .slice a3 m.desks.length p3, .slice a4 m.paces.length p4, .int .i64 m.now] 40) = W at *
  refine (spec_q (unhide Hok) K.smy).mono ?_
  rintro e w1 ⟨rfl, hb⟩
  replace K := K.next hb
  clear hb
  cases ok
  · obtain rfl : q = -1 := by rw [← unhide Hq]; unfold wantedOfV; rw [unhide Hok]; simp
    go_wp2_with fail
    go_ret
    exact ⟨rfl, K.bb⟩
  obtain ⟨qr, hqr⟩ : ∃ q, isRoomB m room = q := ⟨_, rfl⟩
  have Hr := hide hqr
  clear hqr
  obtain ⟨c0, c1, c2, c3, c4, c5⟩ := K.cells
  go_wp2_with fail
  refine (l13Room_q (unhide Hr) K.smy).mono ?_
  rintro e w2 ⟨rfl, hb⟩
  replace K := K.next hb
  clear hb c0 c1 c2 c3 c4 c5
  cases qr
  · obtain rfl : q = -1 := by rw [← unhide Hq]; unfold wantedOfV; rw [unhide Hr]; simp
    go_wp2_with fail
    go_ret
    exact ⟨rfl, K.bb⟩
  obtain ⟨r, rfl, hr⟩ := room_of (unhide Hr)
  obtain rfl : q = wantedV m r := by rw [← unhide Hq]; unfold wantedOfV; rw [unhide Hr, unhide Hok]; rfl
  have HS := hide (smy_loose (unhide Hok)).sane
  obtain ⟨c0, c1, c2, c3, c4, c5⟩ := K.cells
  go_wp2_with fail
  refine (l17Wanted_any K.smy (unhide HS) hr).mono ?_
  rintro e w3 ⟨rfl, hb⟩
  replace K := K.next hb
  clear hb c0 c1 c2 c3 c4 c5
  go_wp2_with fail
  go_ret
  exact ⟨rfl, K.bb⟩
set_option maxHeartbeats 8000000 in
theorem implWanted_any {w : World} {v0 v1 v2 v3 v4 : Value} {m : SmyV} {room q : Int} (hq : wantedOfV m room = q) (h : Smy w v0 v1 v2 v3 v4 m) : Calls Tryz.prog 7 #[.agg #[v0, v1, v2, v3, v4, .int .i64 m.now], .int .i64 room] w fun e w' => e = .returned (.int .i64 q) ∧ Below w.heap.size w w' := by
  have Hq := hide hq
  clear hq
  obtain ⟨nd, hnd⟩ : ∃ q, needInV m room = q := ⟨_, rfl⟩
  have Hn := hide hnd
  clear hnd
  obtain ⟨a0, p0, a1, p1, a2, p2, a3, p3, a4, p4, rfl, rfl, rfl, rfl, rfl, K⟩ := Bx.new h
  clear h
  go_enter Tryz.func7, Tryz.ntmps7
  go_wp2_with fail
  generalize w.alloc (.cells #[.slice a0 m.rooms.length p0, .slice a1 m.guilds.length p1, .slice a2 m.smiths.length p2, .slice a3 m.desks.length p3, .slice a4 m.paces.length p4, .int .i64 m.now] 40) = W at *
  obtain ⟨c0, c1, c2, c3, c4, c5⟩ := K.cells
  refine (implNeedIn_any (unhide Hn) K.smy).mono ?_
  rintro e w1 ⟨rfl, hb⟩
  replace K := K.next hb
  clear hb c0 c1 c2 c3 c4 c5
  cases hx : (smyB m && isRoomB m room)
  · obtain rfl : nd = -1 := by rw [← unhide Hn]; exact need_neg.2 hx
    obtain rfl : q = -1 := by rw [← unhide Hq]; unfold wantedOfV; rw [hx]; simp
    clear hx
    go_wp2_with fail
    go_ret
    exact ⟨rfl, K.bb⟩
  have hne : nd ≠ -1 := by
    intro e
    rw [← unhide Hn, need_neg, hx] at e
    cases e
  have n0 : (nd == -1) = false := by simpa using hne
  simp only [Bool.and_eq_true] at hx
  have Hr := hide hx.2
  have Hok := hide hx.1
  clear hx hne
  obtain ⟨r, rfl, hr⟩ := room_of (unhide Hr)
  have Hqr : Hid (paceForV (roomAt m.rooms r) nd = q) := hide (by rw [← unhide Hn, ← unhide Hq, needIn_yes (unhide Hok) (unhide Hr)]; unfold wantedOfV; rw [unhide Hr, unhide Hok]; rfl)
  clear Hq Hn Hok Hr
  have hr1 : (r : Int) < (m.rooms.length : Int) := by omega
  obtain ⟨_, _, hre, _, _, r0⟩ := K.smy.rooms
  cases hre
  rcases r0 with e0 | ⟨rb, off, rfl, hbw, hcl⟩
  · rw [e0] at hr; simp at hr
  obtain ⟨d0, pv, d1, hpv⟩ := hcl r hr
  have Hpv := hide hpv
  obtain ⟨pa, pc, rfl, _, _, _⟩ := hpv
  obtain ⟨⟨bn, ps⟩, hrm⟩ : ∃ q, roomAt m.rooms r = q := ⟨_, rfl⟩
  have Hrm := hide hrm
  rw [hrm] at d0 d1 Hpv
  simp only at d0 d1
  clear hcl hrm
  rw [unhide Hrm] at Hqr
  obtain ⟨c0, c1, c2, c3, c4, c5⟩ := K.cells
  go_wp2_with fail
  refine (implPaceFor_any bn nd (unhide Hpv)).mono ?_
  rintro e w2 ⟨rfl, hb⟩
  replace K := K.next hb
  clear hb c0 c1 c2 c3 c4 c5
  go_wp2_with fail
  go_ret
  exact ⟨by rw [← unhide Hqr]; rfl, K.bb⟩
end Go.Proofs.YtffcgajndmhpkaaGreat

/- The walk of the exact law on Wanted. Condition: the smithy can be read. -/
namespace Go.Proofs.YtffcgajndmhpkaaGreat
open Go.ChangeShapes Go.WideShapes Go.ChangeAt Go.RowKit Go.Sort
set_option linter.unusedVariables false

set_option maxRecDepth 100000 in
set_option maxHeartbeats 8000000 in
theorem walkFnExactWanted (v0 v1 v2 v3 v4 : Value) (m : SmyV) (room : Int) (w : World) (h : Smy w v0 v1 v2 v3 v4 m) :
    Calls Tryz.prog 3 #[.agg #[v0, v1, v2, v3, v4, .int .i64 m.now], .int .i64 room] w fun e w' => e = .returned (.bool true) ∧ Below w.heap.size w w' := by
  obtain ⟨q, hq⟩ : ∃ q, wantedOfV m room = q := ⟨_, rfl⟩
  have Hq := hide hq
  clear hq
  have Hv := hide h
  obtain ⟨a0, p0, rfl, _, _⟩ := IsRooms.shape h.rooms
  obtain ⟨a1, p1, rfl, _, _⟩ := IsRec.shape h.guilds
  obtain ⟨a2, p2, rfl, _, _⟩ := IsRec.shape h.smiths
  obtain ⟨a3, p3, rfl, _, _⟩ := IsRec.shape h.desks
  obtain ⟨a4, p4, rfl, _, _⟩ := IsRec.shape h.paces
  clear h
  go_enter Tryz.func3, Tryz.ntmps3
  go_wp2_with fail
  refine (szSmithy_any ((unhide Hv).alloc _)).mono ?_
  rintro e w1 ⟨x, rfl, hx, hb⟩
  have ka : Hid (Blk w1 w.heap.size 30 #[.slice a0 m.rooms.length p0, .slice a1 m.guilds.length p1, .slice a2 m.smiths.length p2, .slice a3 m.desks.length p3, .slice a4 m.paces.length p4, .int .i64 m.now]) := hide ((Blk.new w _ _).below hb (by simp))
  have BB : Hid (Below w.heap.size w w1) := hide (((Below.refl _ _).alloc (Nat.le_refl _) _).trans (hb.mono (by simp)))
  have Hx := hide hx
  clear hx hb
  by_cases hx0 : x < 0
  · go_wp2_with fail
    go_ret
    exact ⟨rfl, unhide BB⟩
  have Hs := hide (unhide Hx (by omega))
  clear Hx
  have c0 := (unhide ka).cell (i := 0) (v := .slice a0 m.rooms.length p0) rfl
  have c1 := (unhide ka).cell (i := 1) (v := .slice a1 m.guilds.length p1) rfl
  have c2 := (unhide ka).cell (i := 2) (v := .slice a2 m.smiths.length p2) rfl
  have c3 := (unhide ka).cell (i := 3) (v := .slice a3 m.desks.length p3) rfl
  have c4 := (unhide ka).cell (i := 4) (v := .slice a4 m.paces.length p4) rfl
  have c5 := (unhide ka).cell (i := 5) (v := .int .i64 m.now) rfl
  go_wp2_with fail
  refine (toSmithy_any ((unhide Hv).below (unhide BB)) (unhide Hs)).mono ?_
  rintro e w2 ⟨u0, u1, u2, u3, u4, rfl, ho, hb⟩
  clear c0 c1 c2 c3 c4 c5
  have k2 := ho.smy
  obtain ⟨b0, q0, rfl, _, _⟩ := IsRooms.shape k2.rooms
  obtain ⟨b1, q1, rfl, _, _⟩ := IsRec.shape k2.guilds
  obtain ⟨b2, q2, rfl, _, _⟩ := IsRec.shape k2.smiths
  obtain ⟨b3, q3, rfl, _, _⟩ := IsRec.shape k2.desks
  obtain ⟨b4, q4, rfl, _, _⟩ := IsRec.shape k2.paces
  have K2 := hide k2
  clear k2 ho
  replace ka := hide ((unhide ka).below hb (unhide ka).lt)
  replace BB := hide ((unhide BB).trans (hb.mono (unhide BB).size))
  clear hb
  go_wp2_with fail
  refine (specWanted_any (unhide Hq) (unhide K2)).mono ?_
  rintro e w3 ⟨rfl, hb⟩
  replace ka := hide ((unhide ka).below hb (unhide ka).lt)
  replace BB := hide ((unhide BB).trans (hb.mono (unhide BB).size))
  clear hb K2
  have c0 := (unhide ka).cell (i := 0) (v := .slice a0 m.rooms.length p0) rfl
  have c1 := (unhide ka).cell (i := 1) (v := .slice a1 m.guilds.length p1) rfl
  have c2 := (unhide ka).cell (i := 2) (v := .slice a2 m.smiths.length p2) rfl
  have c3 := (unhide ka).cell (i := 3) (v := .slice a3 m.desks.length p3) rfl
  have c4 := (unhide ka).cell (i := 4) (v := .slice a4 m.paces.length p4) rfl
  have c5 := (unhide ka).cell (i := 5) (v := .int .i64 m.now) rfl
  go_wp2_with fail
  refine (toSmithy_any ((unhide Hv).below (unhide BB)) (unhide Hs)).mono ?_
  rintro e w4 ⟨u0, u1, u2, u3, u4, rfl, ho, hb⟩
  clear c0 c1 c2 c3 c4 c5
  have k4 := ho.smy
  obtain ⟨d0, r0, rfl, _, _⟩ := IsRooms.shape k4.rooms
  obtain ⟨d1, r1, rfl, _, _⟩ := IsRec.shape k4.guilds
  obtain ⟨d2, r2, rfl, _, _⟩ := IsRec.shape k4.smiths
  obtain ⟨d3, r3, rfl, _, _⟩ := IsRec.shape k4.desks
  obtain ⟨d4, r4, rfl, _, _⟩ := IsRec.shape k4.paces
  have K4 := hide (k4.alloc (.cells #[.slice d0 m.rooms.length r0, .slice d1 m.guilds.length r1, .slice d2 m.smiths.length r2, .slice d3 m.desks.length r3, .slice d4 m.paces.length r4, .int .i64 m.now] 40))
  clear k4 ho
  replace ka := hide ((unhide ka).below hb (unhide ka).lt)
  replace BB := hide ((unhide BB).trans (hb.mono (unhide BB).size))
  clear hb
  go_wp2_with fail
  replace ka := hide ((unhide ka).alloc (.cells #[.slice d0 m.rooms.length r0, .slice d1 m.guilds.length r1, .slice d2 m.smiths.length r2, .slice d3 m.desks.length r3, .slice d4 m.paces.length r4, .int .i64 m.now] 40))
  replace BB := hide ((unhide BB).alloc (unhide BB).size (.cells #[.slice d0 m.rooms.length r0, .slice d1 m.guilds.length r1, .slice d2 m.smiths.length r2, .slice d3 m.desks.length r3, .slice d4 m.paces.length r4, .int .i64 m.now] 40))
  have kx : Hid (Blk (w4.alloc (.cells #[.slice d0 m.rooms.length r0, .slice d1 m.guilds.length r1, .slice d2 m.smiths.length r2, .slice d3 m.desks.length r3, .slice d4 m.paces.length r4, .int .i64 m.now] 40)) w4.heap.size 40 #[.slice d0 m.rooms.length r0, .slice d1 m.guilds.length r1, .slice d2 m.smiths.length r2, .slice d3 m.desks.length r3, .slice d4 m.paces.length r4, .int .i64 m.now]) := hide (Blk.new _ _ _)
  generalize w4.alloc (.cells #[.slice d0 m.rooms.length r0, .slice d1 m.guilds.length r1, .slice d2 m.smiths.length r2, .slice d3 m.desks.length r3, .slice d4 m.paces.length r4, .int .i64 m.now] 40) = W at *
  generalize w4.heap.size = xb at *
  refine (implWanted_any (unhide Hq) (unhide K4)).mono ?_
  rintro e w5 ⟨rfl, hb⟩
  replace K4 := hide ((unhide K4).below hb)
  replace ka := hide ((unhide ka).below hb (unhide ka).lt)
  replace kx := hide ((unhide kx).below hb (unhide kx).lt)
  replace BB := hide ((unhide BB).trans (hb.mono (unhide BB).size))
  clear hb
  have V5 := hide ((unhide Hv).below (unhide BB))
  have c0 := (unhide ka).cell (i := 0) (v := .slice a0 m.rooms.length p0) rfl
  have c1 := (unhide ka).cell (i := 1) (v := .slice a1 m.guilds.length p1) rfl
  have c2 := (unhide ka).cell (i := 2) (v := .slice a2 m.smiths.length p2) rfl
  have c3 := (unhide ka).cell (i := 3) (v := .slice a3 m.desks.length p3) rfl
  have c4 := (unhide ka).cell (i := 4) (v := .slice a4 m.paces.length p4) rfl
  have c5 := (unhide ka).cell (i := 5) (v := .int .i64 m.now) rfl
  have x0 := (unhide kx).cell (i := 0) (v := .slice d0 m.rooms.length r0) rfl
  have x1 := (unhide kx).cell (i := 1) (v := .slice d1 m.guilds.length r1) rfl
  have x2 := (unhide kx).cell (i := 2) (v := .slice d2 m.smiths.length r2) rfl
  have x3 := (unhide kx).cell (i := 3) (v := .slice d3 m.desks.length r3) rfl
  have x4 := (unhide kx).cell (i := 4) (v := .slice d4 m.paces.length r4) rfl
  have x5 := (unhide kx).cell (i := 5) (v := .int .i64 m.now) rfl
  go_wp2_with fail
  go_region_with (first
    | (go_at_call 6; refine (toSmithy_any (m := m) ?_ (unhide Hs)).mono ?_; exact (unhide V5).below (Below.refl _ _).drew; rintro e w6 ⟨u0, u1, u2, u3, u4, rfl, ho, hb⟩; have k6 := ho.smy; obtain ⟨f0, t0, rfl, _, _⟩ := IsRooms.shape k6.rooms; obtain ⟨f1, t1, rfl, _, _⟩ := IsRec.shape k6.guilds; obtain ⟨f2, t2, rfl, _, _⟩ := IsRec.shape k6.smiths; obtain ⟨f3, t3, rfl, _, _⟩ := IsRec.shape k6.desks; obtain ⟨f4, t4, rfl, _, _⟩ := IsRec.shape k6.paces; have K6 := hide k6; have Hb6 : Hid (Below w5.heap.size w5 w6) := hide ⟨hb.os, hb.tape, hb.output, hb.size, hb.block⟩; have kx6 := (unhide kx).below (unhide Hb6) (unhide kx).lt; have y0 := kx6.cell (i := 0) (v := .slice d0 m.rooms.length r0) rfl; have y1 := kx6.cell (i := 1) (v := .slice d1 m.guilds.length r1) rfl; have y2 := kx6.cell (i := 2) (v := .slice d2 m.smiths.length r2) rfl; have y3 := kx6.cell (i := 3) (v := .slice d3 m.desks.length r3) rfl; have y4 := kx6.cell (i := 4) (v := .slice d4 m.paces.length r4) rfl; have y5 := kx6.cell (i := 5) (v := .int .i64 m.now) rfl; clear k6 ho hb kx6)
    | (go_at_call 8; refine (eqSmithy_yes (m := m) ?_ ?_).mono ?_; exact (unhide K4).below (unhide Hb6); exact unhide K6; rintro e w7 ⟨rfl, hb⟩; have Hb7 := hide hb; clear hb))
  all_goals
    go_wp2_with fail
    go_ret
    exact ⟨rfl, (unhide BB).trans (((unhide Hb6).trans ((unhide Hb7).mono (unhide Hb6).size)).mono (unhide BB).size)⟩

end Go.Proofs.YtffcgajndmhpkaaGreat

/- A room or a hall that is handed in, opened: what it reads as. No condition. -/
namespace Go.Proofs.YtffcgajndmhpkaaGreat
open Go.ChangeShapes Go.WideShapes Go.ChangeAt Go.RowKit Go.Deep
set_option linter.unusedVariables false

theorem addr_two {w : World} {b off i : Nat} {u u' : Value} (h1 : w.cell? ((⟨b, off, none⟩ : Addr).add (i * 2)) = some u) (h2 : w.cell? ((⟨b, off, none⟩ : Addr).add (i * 2 + 1)) = some u') :
    w.cell? ⟨b, off + i * 2, none⟩ = some u ∧ w.cell? ⟨b, off + i * 2 + 1, none⟩ = some u' := by
  by_cases hi : i = 0
  · subst hi
    simp [Addr.add] at h1 h2 ⊢
    exact ⟨h1, h2⟩
  · have h2i : ¬ i * 2 = 0 := by omega
    simp [Addr.add, h2i] at h1 h2 ⊢
    exact ⟨h1, h2⟩

theorem open_paces {H : Type} {enc : TypeId × Value → H} {W : World} {spare : Nat → Bool} {held : Bool} {n : Nat} {v : Value} {y : DataW H × List MemPlace}
    (h : DataW.trod enc Tryz.prog W 0 spare held n 90 [v] = some y) : ∃ ps, IsPaces W v ps := by
  rcases open_slice_pairs Tryz.underlying90 Tryz.underlying135 (by kernel_rfl) rfl rfl (by kernel_rfl) (by kernel_rfl) h with ⟨hv, _⟩ | ⟨a, len, cap, m, n', V0, V1, D0, D1, P0, P1, hv, _, hl, hm, hmm, _, hx⟩
  · cases hv
    exact ⟨[], none, 0, rfl, Nat.le_refl _, by omega, .inl rfl⟩
  · cases hv
    have hlm : len ≤ m := by rw [hmm]; split <;> omega
    obtain ⟨F, hF⟩ := choose_lt (α := Int × Int) (n := len) (p := fun i q => V0 i = .int .i64 q.1 ∧ V1 i = .int .i64 q.2) (fun i hi => by
      obtain ⟨_, _, t0, t1⟩ := hx i (by omega)
      obtain ⟨q0, e0, _⟩ := DataW.trod_int Tryz.underlying2 t0
      obtain ⟨q1, e1, _⟩ := DataW.trod_int Tryz.underlying2 t1
      exact ⟨(q0, q1), by simpa using e0, by simpa using e1⟩)
    have hlen : ((List.range len).map F).length = len := by simp
    refine ⟨(List.range len).map F, some a, cap, by rw [hlen], by rw [hlen]; exact hl, by unfold maxLen at hm; omega, ?_⟩
    by_cases hz : len = 0
    · exact .inl (by simp [hz])
    · have h0 := hx 0 (by omega)
      have sp := World.cell?_spot h0.1
      have hlt := World.block_lt_of_cell? _ _ h0.1
      obtain ⟨b, off, spot⟩ := a
      have hspot : spot = none := by simpa [Addr.add] using sp
      subst hspot
      refine .inr ⟨b, off, rfl, by simpa [Addr.add] using hlt, fun k hk => ?_⟩
      rw [hlen] at hk
      obtain ⟨c0, c1, _, _⟩ := hx k (by omega)
      obtain ⟨e0, e1⟩ := hF k hk
      have hat : paceAt ((List.range len).map F) k = F k := by unfold paceAt; simp [List.getD, hk]
      rw [hat, ← e0, ← e1]
      exact addr_two c0 c1

theorem open_rooms {H : Type} {enc : TypeId × Value → H} {W : World} {spare : Nat → Bool} {held : Bool} {n : Nat} {v : Value} {y : DataW H × List MemPlace}
    (h : DataW.trod enc Tryz.prog W 0 spare held n 22 [v] = some y) : ∃ rs, IsRooms W v rs := by
  rcases open_slice_pairs Tryz.underlying22 Tryz.underlying92 (by kernel_rfl) rfl rfl (by kernel_rfl) (by kernel_rfl) h with ⟨hv, _⟩ | ⟨a, len, cap, m, n', V0, V1, D0, D1, P0, P1, hv, _, hl, hm, hmm, _, hx⟩
  · cases hv
    exact ⟨[], none, 0, rfl, Nat.le_refl _, by omega, .inl rfl⟩
  · cases hv
    have hlm : len ≤ m := by rw [hmm]; split <;> omega
    obtain ⟨F, hF⟩ := choose_lt (α := RoomV) (n := len) (p := fun i q => V0 i = .int .i64 q.1 ∧ IsPaces W (V1 i) q.2) (fun i hi => by
      obtain ⟨_, _, t0, t1⟩ := hx i (by omega)
      obtain ⟨q0, e0, _⟩ := DataW.trod_int Tryz.underlying2 t0
      obtain ⟨ps, e1⟩ := open_paces t1
      exact ⟨(q0, ps), by simpa using e0, e1⟩)
    have hlen : ((List.range len).map F).length = len := by simp
    refine ⟨(List.range len).map F, some a, cap, by rw [hlen], by rw [hlen]; exact hl, by unfold maxLen at hm; omega, ?_⟩
    by_cases hz : len = 0
    · exact .inl (by simp [hz])
    · have h0 := hx 0 (by omega)
      have sp := World.cell?_spot h0.1
      have hlt := World.block_lt_of_cell? _ _ h0.1
      obtain ⟨b, off, spot⟩ := a
      have hspot : spot = none := by simpa [Addr.add] using sp
      subst hspot
      refine .inr ⟨b, off, rfl, by simpa [Addr.add] using hlt, fun k hk => ?_⟩
      rw [hlen] at hk
      obtain ⟨c0, c1, _, _⟩ := hx k (by omega)
      obtain ⟨e0, e1⟩ := hF k hk
      have hat : roomAt ((List.range len).map F) k = F k := by unfold roomAt; simp [List.getD, hk]
      rw [hat, ← e0]
      exact ⟨(addr_two c0 c1).1, V1 k, (addr_two c0 c1).2, e1⟩

end Go.Proofs.YtffcgajndmhpkaaGreat

/- A list of records (Guild), or one, that is handed in, opened: what it reads as. No condition. -/
namespace Go.Proofs.YtffcgajndmhpkaaGreat
open Go.ChangeShapes Go.WideShapes Go.ChangeAt Go.RowKit Go.Deep
set_option linter.unusedVariables false

set_option maxRecDepth 100000 in
theorem trod_guilds {H : Type} {enc : TypeId × Value → H} {W : World} {spare : Nat → Bool} {held : Bool} {n : Nat} {v : Value} {y : DataW H × List MemPlace}
    (h : DataW.trod enc Tryz.prog W 0 spare held n 25 [v] = some y) : ∃ ps, IsGuilds W v ps := by
  refine open_recs (k := 3) (enc := encGuild) Tryz.underlying25 Tryz.underlying78 (by kernel_rfl) rfl (by kernel_rfl) (by omega) ?_ h
  intro cs hl hc
  match cs, hl with
  | [c0, c1, c2], _ =>
    obtain ⟨u0, n0, y0, e0, t0⟩ := hc 0 _ rfl
    obtain ⟨u1, n1, y1, e1, t1⟩ := hc 1 _ rfl
    obtain ⟨u2, n2, y2, e2, t2⟩ := hc 2 _ rfl
    obtain ⟨z0, q0, _⟩ := DataW.trod_int Tryz.underlying2 t0
    obtain ⟨z1, q1, _⟩ := DataW.trod_int Tryz.underlying2 t1
    obtain ⟨z2, q2, _⟩ := DataW.trod_int Tryz.underlying2 t2
    cases e0; cases e1; cases e2; cases q0; cases q1; cases q2
    exact ⟨(z0, z1, z2), rfl⟩
end Go.Proofs.YtffcgajndmhpkaaGreat

/- A list of records (Smith), or one, that is handed in, opened: what it reads as. No condition. -/
namespace Go.Proofs.YtffcgajndmhpkaaGreat
open Go.ChangeShapes Go.WideShapes Go.ChangeAt Go.RowKit Go.Deep
set_option linter.unusedVariables false

set_option maxRecDepth 100000 in
theorem trod_smiths {H : Type} {enc : TypeId × Value → H} {W : World} {spare : Nat → Bool} {held : Bool} {n : Nat} {v : Value} {y : DataW H × List MemPlace}
    (h : DataW.trod enc Tryz.prog W 0 spare held n 26 [v] = some y) : ∃ ps, IsSmiths W v ps := by
  refine open_recs (k := 11) (enc := encSmith) Tryz.underlying26 Tryz.underlying80 (by kernel_rfl) rfl (by kernel_rfl) (by omega) ?_ h
  intro cs hl hc
  match cs, hl with
  | [c0, c1, c2, c3, c4, c5, c6, c7, c8, c9, c10], _ =>
    obtain ⟨u0, n0, y0, e0, t0⟩ := hc 0 _ rfl
    obtain ⟨u1, n1, y1, e1, t1⟩ := hc 1 _ rfl
    obtain ⟨u2, n2, y2, e2, t2⟩ := hc 2 _ rfl
    obtain ⟨u3, n3, y3, e3, t3⟩ := hc 3 _ rfl
    obtain ⟨u4, n4, y4, e4, t4⟩ := hc 4 _ rfl
    obtain ⟨u5, n5, y5, e5, t5⟩ := hc 5 _ rfl
    obtain ⟨u6, n6, y6, e6, t6⟩ := hc 6 _ rfl
    obtain ⟨u7, n7, y7, e7, t7⟩ := hc 7 _ rfl
    obtain ⟨u8, n8, y8, e8, t8⟩ := hc 8 _ rfl
    obtain ⟨u9, n9, y9, e9, t9⟩ := hc 9 _ rfl
    obtain ⟨u10, n10, y10, e10, t10⟩ := hc 10 _ rfl
    obtain ⟨z0, q0, _⟩ := DataW.trod_int Tryz.underlying2 t0
    obtain ⟨z1, q1, _⟩ := DataW.trod_int Tryz.underlying2 t1
    obtain ⟨z2, q2, _⟩ := DataW.trod_int Tryz.underlying2 t2
    obtain ⟨z3, q3, _⟩ := DataW.trod_int Tryz.underlying2 t3
    obtain ⟨z4, q4, _⟩ := DataW.trod_int Tryz.underlying2 t4
    obtain ⟨z5, q5, _⟩ := DataW.trod_int Tryz.underlying2 t5
    obtain ⟨z6, q6, _⟩ := DataW.trod_int Tryz.underlying2 t6
    obtain ⟨z7, q7, _⟩ := DataW.trod_int Tryz.underlying2 t7
    obtain ⟨z8, q8, _⟩ := DataW.trod_int Tryz.underlying2 t8
    obtain ⟨z9, q9, _⟩ := DataW.trod_int Tryz.underlying2 t9
    obtain ⟨z10, q10, _⟩ := DataW.trod_int Tryz.underlying2 t10
    cases e0; cases e1; cases e2; cases e3; cases e4; cases e5; cases e6; cases e7; cases e8; cases e9; cases e10; cases q0; cases q1; cases q2; cases q3; cases q4; cases q5; cases q6; cases q7; cases q8; cases q9; cases q10
    exact ⟨(z0, z1, z2, z3, z4, z5, z6, z7, z8, z9, z10), rfl⟩
end Go.Proofs.YtffcgajndmhpkaaGreat

/- A list of records (Desk), or one, that is handed in, opened: what it reads as. No condition. -/
namespace Go.Proofs.YtffcgajndmhpkaaGreat
open Go.ChangeShapes Go.WideShapes Go.ChangeAt Go.RowKit Go.Deep
set_option linter.unusedVariables false

set_option maxRecDepth 100000 in
theorem trod_desks {H : Type} {enc : TypeId × Value → H} {W : World} {spare : Nat → Bool} {held : Bool} {n : Nat} {v : Value} {y : DataW H × List MemPlace}
    (h : DataW.trod enc Tryz.prog W 0 spare held n 27 [v] = some y) : ∃ ps, IsDesks W v ps := by
  refine open_recs (k := 3) (enc := encDesk) Tryz.underlying27 Tryz.underlying82 (by kernel_rfl) rfl (by kernel_rfl) (by omega) ?_ h
  intro cs hl hc
  match cs, hl with
  | [c0, c1, c2], _ =>
    obtain ⟨u0, n0, y0, e0, t0⟩ := hc 0 _ rfl
    obtain ⟨u1, n1, y1, e1, t1⟩ := hc 1 _ rfl
    obtain ⟨u2, n2, y2, e2, t2⟩ := hc 2 _ rfl
    obtain ⟨z0, q0, _⟩ := DataW.trod_bool Tryz.underlying4 t0
    obtain ⟨z1, q1, _⟩ := DataW.trod_int Tryz.underlying2 t1
    obtain ⟨z2, q2, _⟩ := DataW.trod_int Tryz.underlying2 t2
    cases e0; cases e1; cases e2; cases q0; cases q1; cases q2
    exact ⟨(z0, z1, z2), rfl⟩
end Go.Proofs.YtffcgajndmhpkaaGreat

/- A smithy that is handed in, opened: what it reads as. No condition. -/
namespace Go.Proofs.YtffcgajndmhpkaaGreat
open Go.ChangeShapes Go.WideShapes Go.ChangeAt Go.RowKit Go.Deep
set_option linter.unusedVariables false

set_option maxRecDepth 100000 in
theorem open_smithy {H : Type} {enc : TypeId × Value → H} {W : World} {spare : Nat → Bool} {held : Bool} {r : Reach} {b0 : Nat} {v : Value} {d : DataW H} {p : List MemPlace}
    (hv : Value.okWide Tryz.prog W r b0 30 v) (h : DataW.Trod enc Tryz.prog W 0 spare held 30 v d p) : ∃ v0 v1 v2 v3 v4 m, v = .agg #[v0, v1, v2, v3, v4, .int .i64 m.now] ∧ Smy W v0 v1 v2 v3 v4 m := by
  obtain ⟨cs, rfl, hsz⟩ := okWide_struct Tryz.underlying30 hv
  have h1 : cs.size = 6 := hsz.trans (by kernel_rfl)
  obtain ⟨l⟩ := cs
  match l, h1 with
  | [c0, c1, c2, c3, c4, c5], _ =>
    obtain ⟨fuel, hf⟩ := h
    obtain ⟨xs, n, _, _, hl, hxl, hF⟩ := DataW.trod_struct Tryz.underlying30 hf
    have k1 : Tryz.prog.cellsOf 24 = 1 := by kernel_rfl
    have k2 : Tryz.prog.cellsOf 25 = 1 := by kernel_rfl
    have k3 : Tryz.prog.cellsOf 26 = 1 := by kernel_rfl
    have k4 : Tryz.prog.cellsOf 27 = 1 := by kernel_rfl
    have k5 : Tryz.prog.cellsOf 28 = 1 := by kernel_rfl
    have k6 : Tryz.prog.cellsOf 2 = 1 := by kernel_rfl
    match xs, hxl with
    | [y0, y1, y2, y3, y4, y5], _ =>
      have g0 := hF 0 _ rfl
      have g1 := hF 1 _ rfl
      have g2 := hF 2 _ rfl
      have g3 := hF 3 _ rfl
      have g4 := hF 4 _ rfl
      have g5 := hF 5 _ rfl
      simp [Value.cells, k1] at g0
      simp [Value.cells, k2] at g1
      simp [Value.cells, k3] at g2
      simp [Value.cells, k4] at g3
      simp [Value.cells, k5] at g4
      simp [Value.cells, k6] at g5
      obtain ⟨z0, n', _, _, h0⟩ := trod_struct1 Tryz.underlying24 g0
      have kr : Tryz.prog.cellsOf 22 = 1 := by kernel_rfl
      obtain ⟨rs, hr⟩ := open_rooms (v := c0) (by simpa [kr] using h0)
      obtain ⟨gs, hg⟩ := trod_guilds g1
      obtain ⟨ss, hs⟩ := trod_smiths g2
      obtain ⟨ds, hd⟩ := trod_desks g3
      obtain ⟨ps, hp⟩ := open_nums g4
      obtain ⟨now, e, _⟩ := DataW.trod_int Tryz.underlying2 g5
      cases e
      exact ⟨c0, c1, c2, c3, c4, ⟨rs, gs, ss, ds, ps, now⟩, rfl, ⟨hr, hg, hs, hd, hp⟩⟩

end Go.Proofs.YtffcgajndmhpkaaGreat

