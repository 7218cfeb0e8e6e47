/- What the proof rests on, part 27: lists and numbers, how they lie in memory, and contracts of the calls. No condition but those that a theorem names. -/
import Derived.Test.YtmhagllddhjgmaaGreatXw01
import Derived.Test.YtmhagllddhjgmaaGreatXw02
import Derived.Test.YtmhagllddhjgmaaGreatXw03
import Derived.Test.YtmhagllddhjgmaaGreatXw04
import Derived.Test.YtmhagllddhjgmaaGreatXw05
import Derived.Test.YtmhagllddhjgmaaGreatXw06
import Derived.Test.YtmhagllddhjgmaaGreatXw07
import Derived.Test.YtmhagllddhjgmaaGreatXw08
import Derived.Test.YtmhagllddhjgmaaGreatXw09
import Derived.Test.YtmhagllddhjgmaaGreatXw10
import Derived.Test.YtmhagllddhjgmaaGreatXw11
import Derived.Test.YtmhagllddhjgmaaGreatXw12
import Derived.Test.YtmhagllddhjgmaaGreatXw13
import Derived.Test.YtmhagllddhjgmaaGreatXw14
import Derived.Test.YtmhagllddhjgmaaGreatXw15
import Derived.Test.YtmhagllddhjgmaaGreatXw16
import Derived.Test.YtmhagllddhjgmaaGreatXw17
import Derived.Test.YtmhagllddhjgmaaGreatXw18
import Derived.Test.YtmhagllddhjgmaaGreatXw19
import Derived.Test.YtmhagllddhjgmaaGreatXw20
import Derived.Test.YtmhagllddhjgmaaGreatXw21
import Derived.Test.YtmhagllddhjgmaaGreatXw22
import Derived.Test.YtmhagllddhjgmaaGreatXw23
import Derived.Test.YtmhagllddhjgmaaGreatXw24
import Derived.Test.YtmhagllddhjgmaaGreatXw25
import Derived.Test.YtmhagllddhjgmaaGreatXw26
import Derived.Deep.DeepCutAuto
import Derived.WalkMore
import Derived.Below
import Derived.ChangeKeysEq
import Derived.Laws.StructEq
import Derived.WalkKit
import Derived.ProofKit
import Derived.OpenShut
import Derived.Outline
import Derived.Deep.QuietTactic
import Derived.BigQuiet
import Derived.Lib.QuietBelow
import Derived.Deep.RegionWith
import Derived.Deep.DrawnRows
import Derived.BigRegion
import Derived.Deep.RegionLawGrows
import Derived.Deep.DeepMust
import Derived.Laws.OwnMore
import Derived.OwnWalk
import Derived.Maps.AppendAt
import Derived.Lib.ItoaNum
import Derived.Lib.ItoaLen
import Derived.Lib.AtoiTie
import Derived.Lib.ParseIntBTie
import Derived.Lib.SplitLaws
import Derived.Lib.Join
import Derived.RangeFuncNested
import Derived.RangeFuncBound
import Derived.RangeFuncCalls
import Derived.RangeFuncLeaves
import Derived.RangeFuncBox
import Derived.Shelf.Abstract
import Derived.Shelf.RegionOpen
import Derived.OwnWalkIn
import Derived.TacticsInMore
import Derived.LoopNIn
import Derived.LoopIn
import Derived.Deep.OwnRows
import Derived.Lib.SmallJoins
import Derived.Deep.Fields
import Derived.Deep.Slices
import Derived.OrdersHeld
import Derived.Deep.RegionHeldLaw
/- The walk of FnNew: a new smithy is right, nobody is there, and each bench is open and idle. Condition: the bytes can be read. -/
namespace Go.Proofs.YtmhagllddhjgmaaGreat
open Go.ChangeShapes Go.WideShapes Go.ChangeAt Go.RowKit Go.Sort
open Draw (Row IsRow row_of row_later big_yes big_no)
set_option linter.unusedVariables false
attribute [local go_sem ↓] desk_neq

theorem zero_smy (w : World) : Smy w (.slice none 0 0) (.slice none 0 0) (.slice none 0 0) (.slice none 0 0) (.slice none 0 0) zeroM := (full_zero 0 w).smy

set_option maxRecDepth 100000 in
set_option maxHeartbeats 16000000 in
theorem walkFnNew (a0 : Option Addr) (len0 cap0 : Nat) (z0 : List Int) (w : World) (w0 : IsRow .u8 w a0 len0 cap0 z0) :
    Calls Tryz.prog 4 #[.slice a0 len0 cap0] w fun e w' => e = .returned (.bool true) ∧ Below w.heap.size w w' := by
  by_cases hbig : 4096 < len0
  · go_enter Tryz.func4, Tryz.ntmps4
    go_wp2_with fail
    refine (big_yes _ _ _ _ hbig).mono ?_
    rintro e w' ⟨rfl, rfl⟩
    go_wp2_with fail
    go_ret
    exact ⟨rfl, Below.refl _ _⟩
  have Hr := hide (row_of w0 (by omega))
  clear w0
  go_enter Tryz.func4, Tryz.ntmps4
  go_wp2_with fail
  refine (big_no _ _ _ _ (by omega)).mono ?_
  rintro e w' ⟨rfl, hw'⟩
  subst w'
  go_wp2_with fail
  refine (drawNewSmithy_any _ _ _ _ (unhide Hr)).mono ?_
  rintro e w1 ⟨v, rs, rfl, hi, hb⟩
  have Hh := hide hi
  obtain ⟨ha, hc, rfl, _, _⟩ := IsRooms.shape hi
  have BB := hide hb
  clear hi hb Hr
  go_upto_region 4 with fail
  have hb : Below w1.heap.size w1 (w1.alloc (.cells #[.slice ha rs.length hc] 26)) := (Below.refl _ _).alloc (Nat.le_refl _) _
  have kh : Hid (Blk (w1.alloc (.cells #[.slice ha rs.length hc] 26)) w1.heap.size 26 #[.slice ha rs.length hc]) := hide (Blk.new _ _ _)
  replace Hh := hide ((unhide Hh).below hb)
  replace BB := hide ((unhide BB).trans (hb.mono (unhide BB).size))
  clear hb
  generalize w1.alloc (.cells #[.slice ha rs.length hc] 26) = W1 at *
  generalize w1.heap.size = hbx at *
  obtain ⟨q, hq⟩ : ∃ q, hallB rs = q := ⟨_, rfl⟩
  obtain ⟨M, hM⟩ : ∃ M, newV rs = M := ⟨_, rfl⟩
  have HS1 := hide (fun (W : World) (u : Value) (hu : IsRooms W u rs) => specNewSmithy_any hu)
  have HI1 := hide (fun (W : World) (u : Value) (hu : IsRooms W u rs) => implNewSmithy_any hu)
  rw [hq, hM] at HS1 HI1
  have Hq := hide hq
  have HM := hide hM
  clear hq hM
  have h0 := (unhide kh).cell (i := 0) (v := .slice ha rs.length hc) rfl
  go_wp2_with fail
  refine (unhide HI1 _ _ (unhide Hh)).mono ?_
  rintro e w2 ⟨⟨y0, y1, y2, y3, y4, mq, rfl, ho⟩, hb⟩
  have k9 := ho.smy
  obtain ⟨a0, p0, rfl, _, _⟩ := IsRooms.shape k9.rooms
  obtain ⟨a1, p1, rfl, _, _⟩ := IsRec.shape k9.guilds
  obtain ⟨a2, p2, rfl, _, _⟩ := IsRec.shape k9.smiths
  obtain ⟨a3, p3, rfl, _, _⟩ := IsRec.shape k9.desks
  obtain ⟨a4, p4, rfl, _, _⟩ := IsRec.shape k9.paces
  have HA := hide k9
  clear k9 ho h0
  replace kh := hide ((unhide kh).below hb (unhide kh).lt)
  replace Hh := hide ((unhide Hh).below hb)
  replace BB := hide ((unhide BB).trans (hb.mono (unhide BB).size))
  clear hb
  go_upto_region 5 with fail
  have hb : Below w2.heap.size w2 (w2.alloc (.cells #[.slice a0 M.rooms.length p0, .slice a1 M.guilds.length p1, .slice a2 M.smiths.length p2, .slice a3 M.desks.length p3, .slice a4 M.paces.length p4, .int .i64 M.now] 32)) := (Below.refl _ _).alloc (Nat.le_refl _) _
  have km : Hid (Blk (w2.alloc (.cells #[.slice a0 M.rooms.length p0, .slice a1 M.guilds.length p1, .slice a2 M.smiths.length p2, .slice a3 M.desks.length p3, .slice a4 M.paces.length p4, .int .i64 M.now] 32)) w2.heap.size 32 #[.slice a0 M.rooms.length p0, .slice a1 M.guilds.length p1, .slice a2 M.smiths.length p2, .slice a3 M.desks.length p3, .slice a4 M.paces.length p4, .int .i64 M.now]) := hide (Blk.new _ _ _)
  replace kh := hide ((unhide kh).below hb (unhide kh).lt)
  replace Hh := hide ((unhide Hh).below hb)
  replace HA := hide ((unhide HA).below hb)
  replace BB := hide ((unhide BB).trans (hb.mono (unhide BB).size))
  clear hb
  generalize w2.alloc (.cells #[.slice a0 M.rooms.length p0, .slice a1 M.guilds.length p1, .slice a2 M.smiths.length p2, .slice a3 M.desks.length p3, .slice a4 M.paces.length p4, .int .i64 M.now] 32) = W2 at *
  generalize w2.heap.size = mb at *
  have h0 := (unhide kh).cell (i := 0) (v := .slice ha rs.length hc) rfl
  go_wp2_with fail
  refine (unhide HS1 _ _ (unhide Hh)).mono ?_
  rintro e w3 ⟨⟨y0, y1, y2, y3, y4, xq, rfl, ho⟩, hb⟩
  have k9 := ho.smy
  obtain ⟨b0, q0, rfl, _, _⟩ := IsRooms.shape k9.rooms
  obtain ⟨b1, q1, rfl, _, _⟩ := IsRec.shape k9.guilds
  obtain ⟨b2, q2, rfl, _, _⟩ := IsRec.shape k9.smiths
  obtain ⟨b3, q3, rfl, _, _⟩ := IsRec.shape k9.desks
  obtain ⟨b4, q4, rfl, _, _⟩ := IsRec.shape k9.paces
  have HB := hide k9
  clear k9 ho h0
  replace kh := hide ((unhide kh).below hb (unhide kh).lt)
  replace Hh := hide ((unhide Hh).below hb)
  replace HA := hide ((unhide HA).below hb)
  replace km := hide ((unhide km).below hb (unhide km).lt)
  replace BB := hide ((unhide BB).trans (hb.mono (unhide BB).size))
  clear hb
  go_upto_region 6 with fail
  have hb : Below w3.heap.size w3 (w3.alloc (.cells #[.slice b0 M.rooms.length q0, .slice b1 M.guilds.length q1, .slice b2 M.smiths.length q2, .slice b3 M.desks.length q3, .slice b4 M.paces.length q4, .int .i64 M.now] 32)) := (Below.refl _ _).alloc (Nat.le_refl _) _
  have kx : Hid (Blk (w3.alloc (.cells #[.slice b0 M.rooms.length q0, .slice b1 M.guilds.length q1, .slice b2 M.smiths.length q2, .slice b3 M.desks.length q3, .slice b4 M.paces.length q4, .int .i64 M.now] 32)) w3.heap.size 32 #[.slice b0 M.rooms.length q0, .slice b1 M.guilds.length q1, .slice b2 M.smiths.length q2, .slice b3 M.desks.length q3, .slice b4 M.paces.length q4, .int .i64 M.now]) := hide (Blk.new _ _ _)
  replace kh := hide ((unhide kh).below hb (unhide kh).lt)
  replace Hh := hide ((unhide Hh).below hb)
  replace HA := hide ((unhide HA).below hb)
  replace km := hide ((unhide km).below hb (unhide km).lt)
  replace HB := hide ((unhide HB).below hb)
  replace BB := hide ((unhide BB).trans (hb.mono (unhide BB).size))
  clear hb
  generalize w3.alloc (.cells #[.slice b0 M.rooms.length q0, .slice b1 M.guilds.length q1, .slice b2 M.smiths.length q2, .slice b3 M.desks.length q3, .slice b4 M.paces.length q4, .int .i64 M.now] 32) = W3 at *
  generalize w3.heap.size = xb at *
  have hqq : (q != q) = false := by cases q <;> rfl
  have c0 := (unhide km).cell (i := 0) (v := .slice a0 M.rooms.length p0) rfl
  have c1 := (unhide km).cell (i := 1) (v := .slice a1 M.guilds.length p1) rfl
  have c2 := (unhide km).cell (i := 2) (v := .slice a2 M.smiths.length p2) rfl
  have c3 := (unhide km).cell (i := 3) (v := .slice a3 M.desks.length p3) rfl
  have c4 := (unhide km).cell (i := 4) (v := .slice a4 M.paces.length p4) rfl
  have c5 := (unhide km).cell (i := 5) (v := .int .i64 M.now) rfl
  have d0 := (unhide kx).cell (i := 0) (v := .slice b0 M.rooms.length q0) rfl
  have d1 := (unhide kx).cell (i := 1) (v := .slice b1 M.guilds.length q1) rfl
  have d2 := (unhide kx).cell (i := 2) (v := .slice b2 M.smiths.length q2) rfl
  have d3 := (unhide kx).cell (i := 3) (v := .slice b3 M.desks.length q3) rfl
  have d4 := (unhide kx).cell (i := 4) (v := .slice b4 M.paces.length q4) rfl
  have d5 := (unhide kx).cell (i := 5) (v := .int .i64 M.now) rfl
  go_wp2_with fail
  refine (likeSmithy_yes (unhide HA) (unhide HB)).mono ?_
  rintro e w4 ⟨rfl, hb⟩
  clear c0 c1 c2 c3 c4 c5 d0 d1 d2 d3 d4 d5
  replace kh := hide ((unhide kh).below hb (unhide kh).lt)
  replace Hh := hide ((unhide Hh).below hb)
  replace HA := hide ((unhide HA).below hb)
  replace km := hide ((unhide km).below hb (unhide km).lt)
  replace HB := hide ((unhide HB).below hb)
  replace kx := hide ((unhide kx).below hb (unhide kx).lt)
  replace BB := hide ((unhide BB).trans (hb.mono (unhide BB).size))
  clear hb
  cases q
  · obtain rfl : M = zeroM := by rw [← unhide HM]; unfold newV; rw [unhide Hq]; rfl
    have h0 := (unhide kh).cell (i := 0) (v := .slice ha rs.length hc) rfl
    go_wp2_with fail
    refine (specHallOk_any (unhide Hh)).mono ?_
    rw [unhide Hq]
    rintro e w5 ⟨rfl, hb⟩
    clear h0
    replace kh := hide ((unhide kh).below hb (unhide kh).lt)
    replace Hh := hide ((unhide Hh).below hb)
    replace HA := hide ((unhide HA).below hb)
    replace km := hide ((unhide km).below hb (unhide km).lt)
    replace HB := hide ((unhide HB).below hb)
    replace kx := hide ((unhide kx).below hb (unhide kx).lt)
    replace BB := hide ((unhide BB).trans (hb.mono (unhide BB).size))
    clear hb
    have c0 := (unhide km).cell (i := 0) (v := .slice a0 zeroM.rooms.length p0) rfl
    have c1 := (unhide km).cell (i := 1) (v := .slice a1 zeroM.guilds.length p1) rfl
    have c2 := (unhide km).cell (i := 2) (v := .slice a2 zeroM.smiths.length p2) rfl
    have c3 := (unhide km).cell (i := 3) (v := .slice a3 zeroM.desks.length p3) rfl
    have c4 := (unhide km).cell (i := 4) (v := .slice a4 zeroM.paces.length p4) rfl
    have c5 := (unhide km).cell (i := 5) (v := .int .i64 zeroM.now) rfl
    go_wp2_with fail
    refine (likeSmithy_yes (unhide HA) (zero_smy _)).mono ?_
    rintro e w6 ⟨rfl, hb⟩
    replace BB := hide ((unhide BB).trans (hb.mono (unhide BB).size))
    clear hb
    go_wp2_with fail
    go_ret
    exact ⟨rfl, unhide BB⟩
  obtain rfl : M = newM rs := by rw [← unhide HM]; unfold newV; rw [unhide Hq]; rfl
  clear HS1 HI1 HB kx
  have HR := hide (new_right (unhide Hq))
  have hdl := new_desks (unhide Hq)
  have hr3 := (hallB_of (unhide Hq)).2.1
  have h8 := (hallB_of (unhide Hq)).2.2.2
  have hpl : (newM rs).paces.length = rs.length := by show (List.replicate _ _).length = _; rw [List.length_replicate]
  have Hdk : Hid (∀ j, j < (newM rs).desks.length → recAt (newM rs).desks j = (true, -1, 0)) := hide (fun j hj => recAt_rep _ (by
    have : (newM rs).desks.length = (benchSum rs).toNat := by show (List.replicate _ _).length = _; rw [List.length_replicate]
    omega))
  have Hdl := hide hdl
  have Hpl := hide hpl
  have hd8 : (newM rs).desks.length ≤ 8 := by omega
  clear hdl hpl
  have Hsl : Hid ((newM rs).smiths.length = 0) := hide rfl
  have Hbv : Hid (benchesV rs = ((newM rs).desks.length : Int)) := hide (by rw [benchesV_t (unhide Hq), unhide Hdl])
  generalize newM rs = M at *
  go_wp2_with fail
  go_loopw [8] (fun i wr => ∃ k : Nat, k ≤ M.desks.length ∧ i = .int .i64 k ∧ Blk wr mb 32 #[.slice a0 M.rooms.length p0, .slice a1 M.guilds.length p1, .slice a2 M.smiths.length p2, .slice a3 M.desks.length p3, .slice a4 M.paces.length p4, .int .i64 M.now] ∧ Blk wr hbx 26 #[.slice ha rs.length hc] ∧ Below w4.heap.size w4 wr) (fun i _ => M.desks.length - (intOf i).toNat)
  case atStart => exact ⟨0, Nat.zero_le _, rfl, unhide km, unhide kh, Below.refl _ _⟩
  case round =>
    obtain ⟨k, hk, rfl, hkm, hkh, hb⟩ := hrel
    have c3 := hkm.cell (i := 3) rfl
    by_cases hlt : k < M.desks.length
    · have hlt1 : (k : Int) < (M.desks.length : Int) := by omega
      obtain ⟨_, _, he, _, hmx, r1⟩ := (unhide HA).desks
      cases he
      rcases r1 with e0 | ⟨b, off, rfl, hbw, hcl⟩
      · rw [e0] at hlt; simp at hlt
      obtain ⟨x0, x1, x2⟩ := desk_cells hcl hlt
      rw [unhide Hdk k hlt] at x0 x1 x2
      rw [← hb.cell (p := ⟨b, off + k * 3, none⟩) hbw] at x0
      rw [← hb.cell (p := ⟨b, off + k * 3 + 1, none⟩) hbw] at x1
      rw [← hb.cell (p := ⟨b, off + k * 3 + 2, none⟩) hbw] at x2
      have Ka := hide hkm
      have Kb := hide hkh
      have Hb := hide hb
      clear hcl hkm hkh hb
      go_wp2_with fail
      go_roundw
      case rel => exact ⟨k + 1, by omega, by go_num, unhide Ka, unhide Kb, unhide Hb⟩
      case measure => simp [intOf]; omega
    · obtain rfl : k = M.desks.length := by omega
      have Ka := hide hkm
      have Kb := hide hkh
      have Hb := hide hb
      clear hkm hkh hb
      have HA2 := hide ((unhide HA).below (unhide Hb))
      have Hh2 := hide ((unhide Hh).below (unhide Hb))
      have H1 := hide (fun (X : World) (hX : Below wr.heap.size wr X) => Calls.bool_of (implSmithyOk_any ((unhide HA2).below hX)) (unhide HR))
      have H2 := hide (fun (X : World) (hX : Below wr.heap.size wr X) => Calls.int_of (specBenchesIn_any ((unhide Hh2).below hX)) (unhide Hbv))
      have c0 := (unhide Ka).cell (i := 0) (v := .slice a0 M.rooms.length p0) rfl
      have c1 := (unhide Ka).cell (i := 1) (v := .slice a1 M.guilds.length p1) rfl
      have c2 := (unhide Ka).cell (i := 2) (v := .slice a2 M.smiths.length p2) rfl
      have c3_ := (unhide Ka).cell (i := 3) (v := .slice a3 M.desks.length p3) rfl
      have c4 := (unhide Ka).cell (i := 4) (v := .slice a4 M.paces.length p4) rfl
      have c5 := (unhide Ka).cell (i := 5) (v := .int .i64 M.now) rfl
      have h0 := (unhide Kb).cell (i := 0) (v := .slice ha rs.length hc) rfl
      have y0 := cell_regrown c0
      have y1 := cell_regrown c1
      have y2 := cell_regrown c2
      have y3 := cell_regrown c3
      have y4 := cell_regrown c4
      have y5 := cell_regrown c5
      have z0 := cell_regrown h0
      have hsl : ((M.smiths.length : Int) == 0) = true := by rw [unhide Hsl]; rfl
      have hppl : ((M.paces.length : Int) == (rs.length : Int)) = true := by rw [unhide Hpl]; simp
      have hddl : ((M.desks.length : Int) == (M.desks.length : Int)) = true := by simp
      have hsl' : decide ((M.smiths.length : Int) = 0) = true := by rw [unhide Hsl]; rfl
      have hppl' : decide ((M.paces.length : Int) = (rs.length : Int)) = true := by rw [unhide Hpl]; simp
      go_wp2_with fail
      refine wp_region_quiet_below (by kernel_rfl) (by kernel_rfl) ?_
      repeat (go_big_quiet_step (first | exact Calls.regrown_of (unhide H1 _ (below_regrown _ _ _)) | exact Calls.regrown_of (unhide H2 _ (below_regrown _ _ _))))
      refine wpQuiet_nil ?_
      intro _ hw'
      obtain ⟨⟨dq, osq⟩, hw''⟩ := hw'
      subst hw''
      go_wp2_with fail
      go_ret
      exact ⟨rfl, (unhide BB).trans (((unhide Hb).trans ((below_regrown _ _ _).mono (unhide Hb).size)).mono (unhide BB).size)⟩

end Go.Proofs.YtmhagllddhjgmaaGreat

