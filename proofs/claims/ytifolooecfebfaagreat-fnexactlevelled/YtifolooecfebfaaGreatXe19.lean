/- What the proof rests on, part 19: lists and numbers, how they lie in memory, and contracts of the calls. No condition but those that a theorem names. -/
import Derived.Test.YtifolooecfebfaaGreatXe01
import Derived.Test.YtifolooecfebfaaGreatXe02
import Derived.Test.YtifolooecfebfaaGreatXe03
import Derived.Test.YtifolooecfebfaaGreatXe05
import Derived.Test.YtifolooecfebfaaGreatXe06
import Derived.Test.YtifolooecfebfaaGreatXe07
import Derived.Test.YtifolooecfebfaaGreatXe08
import Derived.Test.YtifolooecfebfaaGreatXe10
import Derived.Test.YtifolooecfebfaaGreatXe12
import Derived.Test.YtifolooecfebfaaGreatXe13
import Derived.Test.YtifolooecfebfaaGreatXe16
import Derived.ChangeKeysEq
import Derived.Laws.StructEq
import Derived.WalkMore
import Derived.Below
import GoSem.Claim
import GoSem.ClaimJoined
import GoSem.ClaimMapViews
import Derived.JoinedTies
import Derived.KernelRfl
import Derived.RowKit
import Derived.WalkKit
import Derived.ProofKit
import Derived.OpenShut
import Derived.Outline
import Derived.Lib.QuietBelow
import Derived.Deep.RegionWith
import Derived.Deep.QuietTactic
import Derived.BigQuiet
import Derived.Deep.DrawnRows
import Derived.BigRegion
import Derived.Deep.RegionLawGrows
import Derived.Laws.OwnMore
import Derived.OwnWalk
import Derived.Maps.AppendAt
import Derived.RangeFuncNested
import Derived.RangeFuncBound
import Derived.RangeFuncCalls
import Derived.RangeFuncLeaves
import Derived.RangeFuncBox
import Derived.Shelf.Abstract
import Derived.Shelf.RegionOpen
import Derived.OwnWalkIn
import Derived.TacticsInMore
import Derived.LoopNIn
import Derived.LoopIn
import Derived.Lib.SmallJoins
import Derived.Deep.Fields
import Derived.Deep.Slices
import Derived.OrdersHeld
import Derived.Deep.RegionHeldLaw
import Derived.Deep.DeepCutAuto
/- Contract of the program's SmithyOk: it answers what the lists say, and that is what the model answers. Condition: the smithy can be read. -/
namespace Go.Proofs.YtifolooecfebfaaGreat
open Go.ChangeShapes Go.WideShapes Go.ChangeAt Go.RowKit Go.Sort
set_option linter.unusedVariables false
set_option maxRecDepth 100000

theorem allInPlace1_any (st be rk my gu lo hi hd ca ut wk : Int) {R n3 p3 : Nat} {a3 : Option Addr} {ds : List DeskV} {w : World} (hc : w.cell? ⟨R, 3, none⟩ = some (.slice a3 n3 p3)) (hR : R < w.heap.size) (h : IsDesks w (.slice a3 n3 p3) ds) : Calls Tryz.prog 121 #[.agg #[.int .i64 st, .int .i64 be, .int .i64 rk, .int .i64 my, .int .i64 gu, .int .i64 lo, .int .i64 hi, .int .i64 hd, .int .i64 ca, .int .i64 ut, .int .i64 wk], .pointer (some ⟨R, 0, none⟩)] w fun e w' => e = .returned (.bool (placeB ds (st, be, rk, my, gu, lo, hi, hd, ca, ut, wk))) ∧ Below w.heap.size w w' := by
  have hne : R ≠ w.heap.size := Nat.ne_of_lt hR
  have HD := hide h
  clear h
  go_enter Tryz.func121, Tryz.ntmps121
  go_wp2_with fail
  refine (isInPlace_any st be rk my gu lo hi hd ca ut wk ((unhide HD).below ((Below.refl _ _).alloc (Nat.le_refl _) _))).mono ?_
  rintro e w1 ⟨rfl, hb⟩
  have Hb := hide (((Below.refl w.heap.size w).alloc (Nat.le_refl _) _).trans (hb.mono (by simp)))
  clear hb
  go_wp2_with fail
  go_ret
  exact ⟨rfl, unhide Hb⟩
set_option maxHeartbeats 4000000 in
theorem allPlace_any {w : World} {v : Value} {ss : List SmithV} {R n3 p3 : Nat} {a3 : Option Addr} {ds : List DeskV} (h : IsSmiths w v ss) (hc0 : w.cell? ⟨R, 3, none⟩ = some (.slice a3 n3 p3)) (hR : R < w.heap.size) (hds : IsDesks w (.slice a3 n3 p3) ds) : Calls Tryz.prog 120 #[v, .func (Fn.func 121) #[] #[.pointer (some ⟨R, 0, none⟩)]] w fun e w' => e = .returned (.bool (allTo (placeB ds) ss ss.length)) ∧ Below w.heap.size w w' := all_m h (fun st be rk my gu lo hi hd ca ut wk _ hb => allInPlace1_any st be rk my gu lo hi hd ca ut wk (((hb.cell (p := ⟨R, 3, none⟩) hR).trans hc0)) (Nat.lt_of_lt_of_le hR hb.size) (hds.below hb))
theorem smithsOf_any (a0 a1 a2 a3 a4 : Option Addr) (n0 n1 n2 n3 n4 p0 p1 p2 p3 p4 : Nat) (now : Int) (w : World) : Calls Tryz.prog 89 #[.agg #[.slice a0 n0 p0, .slice a1 n1 p1, .slice a2 n2 p2, .slice a3 n3 p3, .slice a4 n4 p4, .int .i64 now]] w fun e w' => e = .returned (.slice a2 n2 p2) ∧ Below w.heap.size w w' := by
  go_enter Tryz.func89, Tryz.ntmps89
  go_wp2_with fail
  go_ret
  exact ⟨rfl, (Below.refl _ _).alloc (Nat.le_refl _) _⟩
theorem desksOf_any (a0 a1 a2 a3 a4 : Option Addr) (n0 n1 n2 n3 n4 p0 p1 p2 p3 p4 : Nat) (now : Int) (w : World) : Calls Tryz.prog 91 #[.agg #[.slice a0 n0 p0, .slice a1 n1 p1, .slice a2 n2 p2, .slice a3 n3 p3, .slice a4 n4 p4, .int .i64 now]] w fun e w' => e = .returned (.slice a3 n3 p3) ∧ Below w.heap.size w w' := by
  go_enter Tryz.func91, Tryz.ntmps91
  go_wp2_with fail
  go_ret
  exact ⟨rfl, (Below.refl _ _).alloc (Nat.le_refl _) _⟩
set_option maxHeartbeats 2000000 in
theorem smithsOk_any {w : World} {v v1 : Value} {ss : List SmithV} {gs : List GuildV} (h : IsSmiths w v ss) (h1 : IsGuilds w v1 gs) : Calls Tryz.prog 165 #[v, v1] w fun e w' => e = .returned (.bool (smithsIB ss gs.length)) ∧ Below w.heap.size w w' := by
  have Hv := hide h
  obtain ⟨a, cap, rfl, _, _⟩ := IsRec.shape h
  obtain ⟨ga, gc, rfl, _, _⟩ := IsRec.shape h1
  clear h h1
  obtain ⟨q1, hq1⟩ : ∃ q, allTo smithB ss ss.length = q := ⟨_, rfl⟩
  obtain ⟨q2, hq2⟩ : ∃ q, allTo (thereB gs.length) ss ss.length = q := ⟨_, rfl⟩
  have H1 := hide hq1
  have H2 := hide hq2
  by_cases hl : ss.length ≤ 12
  · refine Calls.bool_of (q := (q1 && q2)) ?_ (by unfold smithsIB; rw [hq1, hq2, decide_eq_true hl, Bool.true_and])
    have hl1 : (ss.length : Int) ≤ 12 := by omega
    clear hq1 hq2
    have HW := hide ((unhide Hv).below ((Below.refl _ _).alloc (Nat.le_refl _) (.cells #[.slice ga gs.length gc] 27)))
    go_enter Tryz.func165, Tryz.ntmps165
    go_wp2_with fail
    refine (allOk_any (unhide HW)).mono ?_
    rw [unhide H1]
    rintro e w1 ⟨rfl, hb⟩
    replace HW := hide ((unhide HW).below hb)
    have c0 : w1.cell? ⟨w.heap.size, 0, none⟩ = some (.slice ga gs.length gc) := (hb.cell (p := ⟨w.heap.size, 0, none⟩) (by simp)).trans (cell_new _ rfl)
    have hlt : w.heap.size < w1.heap.size := by have := hb.size; simp at this; omega
    have Hb := hide (((Below.refl w.heap.size w).alloc (Nat.le_refl _) _).trans (hb.mono (by simp)))
    have HC := hide c0
    clear hb c0
    cases q1
    · go_wp2_with fail
      go_ret
      exact ⟨rfl, unhide Hb⟩
    go_wp2_with fail
    refine (allThere_any (unhide HW) (unhide HC) hlt).mono ?_
    rw [unhide H2]
    rintro e w2 ⟨rfl, hb⟩
    replace Hb := hide ((unhide Hb).trans (hb.mono (unhide Hb).size))
    clear hb
    go_wp2_with fail
    go_ret
    exact ⟨ret_bool (by simp), unhide Hb⟩
  · refine Calls.bool_of (q := false) ?_ (by unfold smithsIB; rw [decide_eq_false hl]; rfl)
    have hl1 : ¬ ((ss.length : Int) ≤ 12) := by omega
    clear hq1 hq2
    go_enter Tryz.func165, Tryz.ntmps165
    go_wp2_with fail
    go_ret
    exact ⟨rfl, (Below.refl _ _).alloc (Nat.le_refl _) _⟩
set_option maxHeartbeats 2000000 in
theorem desksOk_any {w : World} {v : Value} {ds : List DeskV} {n : Int} (h : IsDesks w v ds) (hn : n ≤ 1000) : Calls Tryz.prog 166 #[v, .int .i64 n] w fun e w' => e = .returned (.bool (desksIB ds n)) ∧ Below w.heap.size w w' := by
  have Hv := hide h
  obtain ⟨a, cap, rfl, _, _⟩ := IsRec.shape h
  clear h
  obtain ⟨q1, hq1⟩ : ∃ q, allTo deskB ds ds.length = q := ⟨_, rfl⟩
  obtain ⟨ws, hws⟩ : ∃ ws, whereTo openD1 ds ds.length = ws := ⟨_, rfl⟩
  have H1 := hide hq1
  have H2 := hide hws
  by_cases hl : (ds.length : Int) = n
  · refine Calls.bool_of (q := (q1 && decide (0 < ws.length))) ?_ (by unfold desksIB; rw [hq1, show whereTo (fun d : DeskV => d.1) ds ds.length = ws from hws, decide_eq_true hl, Bool.true_and])
    subst hl
    have hl1 : ds.length ≤ 1000 := by omega
    clear hq1 hws
    go_enter Tryz.func166, Tryz.ntmps166
    go_wp2_with fail
    refine (allMark_any (unhide Hv)).mono ?_
    rw [unhide H1]
    rintro e w1 ⟨rfl, hb⟩
    replace Hv := hide ((unhide Hv).below hb)
    have Hb := hide hb
    clear hb
    cases q1
    · go_wp2_with fail
      go_ret
      exact ⟨rfl, unhide Hb⟩
    go_wp2_with fail
    refine (whereOpen_any (unhide Hv) hl1).mono ?_
    rw [unhide H2]
    rintro e w2 ⟨v2, rfl, hn2, hb⟩
    obtain ⟨la, lc, rfl⟩ := RecAt.shape hn2
    replace Hb := hide ((unhide Hb).trans (hb.mono (unhide Hb).size))
    clear hb hn2
    go_wp2_with fail
    go_ret
    exact ⟨ret_bool (by simp), unhide Hb⟩
  · refine Calls.bool_of (q := false) ?_ (by unfold desksIB; rw [decide_eq_false hl]; rfl)
    have hl1 : ((ds.length : Int) == n) = false := by simpa using hl
    clear hq1 hws
    go_enter Tryz.func166, Tryz.ntmps166
    go_wp2_with fail
    go_ret
    exact ⟨rfl, Below.refl _ _⟩
theorem pacesIB_no {ps : List Int} {rs : List RoomV} {k : Nat} (hk : k < ps.length) (h : hasB (roomAt rs k).2.length (recAt ps k) = false) : pacesIB ps rs = false := by
  unfold pacesIB
  rw [all_no (p := fun j => hasB (roomAt rs j).2.length (recAt ps j)) hk h, Bool.and_false]
set_option maxHeartbeats 2000000 in
theorem pacesThere_any {w : World} {v v0 : Value} {ps : List Int} {rs : List RoomV} (h : IsNums w v ps) (h0 : IsRooms w v0 rs) : Calls Tryz.prog 168 #[v, v0] w fun e w' => e = .returned (.bool (pacesIB ps rs)) ∧ Below w.heap.size w w' := by
  obtain ⟨a, cap, rfl, hc, hm, hr⟩ := h
  obtain ⟨a0, cap0, rfl, hc0, hm0, hr0⟩ := h0
  have Hr := hide hr
  have Hr0 := hide hr0
  clear hr hr0
  by_cases hl : ps.length = rs.length
  · have hl1 : (ps.length : Int) = (rs.length : Int) := by omega
    have hbn : ((ps.length : Int) != (rs.length : Int)) = false := by simp [hl]
    have Hall : Hid ((List.range ps.length).all (fun j => hasB (roomAt rs j).2.length (recAt ps j)) = true → pacesIB ps rs = true) := hide (fun e => by unfold pacesIB; rw [e, decide_eq_true hl]; rfl)
    have Hl := hide hl
    clear hl hl1
    go_enter Tryz.func168, Tryz.ntmps168
    go_wp2_with fail
    go_loopw [14] (fun i wr => ∃ k : Nat, k ≤ ps.length ∧ i = .int .i64 k ∧ (List.range k).all (fun j => hasB (roomAt rs j).2.length (recAt ps j)) = true ∧ Below w.heap.size w wr) (fun i _ => ps.length - (intOf i).toNat)
    case atStart => exact ⟨0, Nat.zero_le _, rfl, rfl, Below.refl _ _⟩
    case round =>
      obtain ⟨k, hk, rfl, hst, hb0⟩ := hrel
      have Hst := hide hst
      have BB := hide hb0
      by_cases hlt : k < ps.length
      · have hlt1 : (k : Int) < (ps.length : Int) := by omega
        have hlt2 : (k : Int) < (rs.length : Int) := by have := unhide Hl; omega
        rcases unhide Hr with e0 | ⟨b, off, rfl, hbw, hcl⟩
        · rw [e0] at hlt; simp at hlt
        rcases unhide Hr0 with e0 | ⟨b0, off0, rfl, hbw0, hcl0⟩
        · rw [e0] at hlt2; simp at hlt2; omega
        have d0 := hcl k hlt 0 _ rfl
        simp only [Nat.mul_one, Nat.add_zero] at d0
        rw [← hb0.cell (p := ⟨b, off + k, none⟩) hbw] at d0
        obtain ⟨_, pv, g1, hpv⟩ := hcl0 k (by have := unhide Hl; omega)
        obtain ⟨pa, pc, rfl, _, _, _⟩ := hpv
        rw [← hb0.cell (p := ⟨b0, off0 + k * 2 + 1, none⟩) hbw0] at g1
        have HU := hide (fun (hh : hasB (roomAt rs k).2.length (recAt ps k) = true) => (show (List.range (k + 1)).all (fun j => hasB (roomAt rs j).2.length (recAt ps j)) = true from by rw [all_up, hst, hh]; rfl))
        have HN := hide (fun hh => pacesIB_no (rs := rs) hlt hh)
        clear hcl hcl0 hst hb0
        generalize recAt ps k = x at *
        generalize (roomAt rs k).2.length = n at *
        obtain ⟨q, hq⟩ : ∃ q, hasB n x = q := ⟨_, rfl⟩
        have Hq := hide hq
        clear hq
        go_wp2_with fail
        refine (hasPace_any pa n pc x _).mono ?_
        rw [unhide Hq]
        rintro e w1 ⟨rfl, h9⟩
        subst w1
        cases q
        · go_wp2_with fail
          go_ret
          exact ⟨ret_bool (unhide HN (unhide Hq)).symm, unhide BB⟩
        · go_wp2_with fail
          go_roundw
          case rel => exact ⟨k + 1, by omega, by go_num, unhide HU (unhide Hq), unhide BB⟩
          case measure => simp [intOf]; omega
      · obtain rfl : k = ps.length := by omega
        go_wp2_with fail
        go_ret
        exact ⟨ret_bool (unhide Hall (unhide Hst)).symm, unhide BB⟩
  · refine Calls.bool_of (q := false) ?_ (by unfold pacesIB; rw [decide_eq_false hl]; rfl)
    have hbn : ((ps.length : Int) != (rs.length : Int)) = true := by simp; omega
    go_enter Tryz.func168, Tryz.ntmps168
    go_wp2_with fail
    go_ret
    exact ⟨rfl, Below.refl _ _⟩
theorem Calls.same_below' {P : Program} {f : FuncId} {args : Array Value} {w : World} {v : Value} (h : Calls P f args w fun e w' => e = .returned v ∧ w' = w) : Calls P f args w fun e w' => e = .returned v ∧ Below w.heap.size w w' := h.mono fun e w' ⟨he, hw⟩ => ⟨he, by subst hw; exact Below.refl _ _⟩
theorem Calls.int_of {P : Program} {f : FuncId} {args : Array Value} {w : World} {q q' : Int} (h : Calls P f args w fun e w' => e = .returned (.int .i64 q) ∧ Below w.heap.size w w') (e : q = q') : Calls P f args w fun e w' => e = .returned (.int .i64 q') ∧ Below w.heap.size w w' := by rw [← e]; exact h
set_option maxHeartbeats 8000000 in
theorem partsOk_any {w : World} {v0 v1 v2 v3 v4 : Value} {m : SmyV} (h : Smy w v0 v1 v2 v3 v4 m) : Calls Tryz.prog 119 #[.agg #[v0, v1, v2, v3, v4, .int .i64 m.now]] w fun e w' => e = .returned (.bool (partsIB m)) ∧ Below w.heap.size w w' := by
  have Hv := hide (h.alloc (.cells #[v0, v1, v2, v3, v4, .int .i64 m.now] 32))
  obtain ⟨a0, p0, rfl, _, _⟩ := IsRooms.shape h.rooms
  obtain ⟨a1, p1, rfl, _, _⟩ := IsRec.shape h.guilds
  obtain ⟨a2, p2, rfl, _, _⟩ := IsRec.shape h.smiths
  obtain ⟨a3, p3, rfl, _, _⟩ := IsRec.shape h.desks
  obtain ⟨a4, p4, rfl, _, _⟩ := IsRec.shape h.paces
  clear h
  obtain ⟨q1, hq1⟩ : ∃ q, hallB m.rooms = q := ⟨_, rfl⟩
  obtain ⟨q2, hq2⟩ : ∃ q, guildsB m.guilds = q := ⟨_, rfl⟩
  obtain ⟨q3, hq3⟩ : ∃ q, smithsIB m.smiths m.guilds.length = q := ⟨_, rfl⟩
  obtain ⟨q4, hq4⟩ : ∃ q, desksIB m.desks (benchesV m.rooms) = q := ⟨_, rfl⟩
  obtain ⟨q5, hq5⟩ : ∃ q, pacesIB m.paces m.rooms = q := ⟨_, rfl⟩
  obtain ⟨q6, hq6⟩ : ∃ q, inB m.now 0 1000000 = q := ⟨_, rfl⟩
  refine Calls.bool_of (q := (q1 && (q2 && (q3 && (q4 && (q5 && q6)))))) ?_ (by
    unfold partsIB
    rw [hq2, hq3, hq5, hq6]
    cases q1
    · rw [hq1]; rfl
    · rw [← benchesV_t hq1, hq4, hq1])
  have kb : Hid (Blk (w.alloc (.cells #[.slice a0 m.rooms.length p0, .slice a1 m.guilds.length p1, .slice a2 m.smiths.length p2, .slice a3 m.desks.length p3, .slice a4 m.paces.length p4, .int .i64 m.now] 32)) w.heap.size 32 #[.slice a0 m.rooms.length p0, .slice a1 m.guilds.length p1, .slice a2 m.smiths.length p2, .slice a3 m.desks.length p3, .slice a4 m.paces.length p4, .int .i64 m.now]) := hide (Blk.new w _ _)
  have BB : Hid (Below w.heap.size w (w.alloc (.cells #[.slice a0 m.rooms.length p0, .slice a1 m.guilds.length p1, .slice a2 m.smiths.length p2, .slice a3 m.desks.length p3, .slice a4 m.paces.length p4, .int .i64 m.now] 32))) := hide ((Below.refl _ _).alloc (Nat.le_refl _) _)
  have hbv : benchesV m.rooms ≤ 1000 := by
    cases hb : hallB m.rooms
    · rw [benchesV_f hb]; omega
    · rw [benchesV_t hb]; have := (hallB_of hb).2.2.2; omega
  go_enter Tryz.func119, Tryz.ntmps119
  go_wp2_with fail
  generalize w.alloc (.cells #[.slice a0 m.rooms.length p0, .slice a1 m.guilds.length p1, .slice a2 m.smiths.length p2, .slice a3 m.desks.length p3, .slice a4 m.paces.length p4, .int .i64 m.now] 32) = W at *
  have H1 := hide (fun (X : World) (hX : Below W.heap.size W X) => Calls.bool_of (implHallOk_any ((unhide Hv).below hX).rooms) hq1)
  have H2 := hide (fun (X : World) (hX : Below W.heap.size W X) => Calls.bool_of (implGuildsOk_any ((unhide Hv).below hX).guilds) hq2)
  have H3 := hide (fun (X : World) (hX : Below W.heap.size W X) => Calls.bool_of (smithsOk_any ((unhide Hv).below hX).smiths ((unhide Hv).below hX).guilds) hq3)
  have H4a := hide (fun (X : World) (hX : Below W.heap.size W X) => implBenchesIn_any ((unhide Hv).below hX).rooms)
  have H4 := hide (fun (X : World) (hX : Below W.heap.size W X) => Calls.bool_of (desksOk_any ((unhide Hv).below hX).desks hbv) hq4)
  have H5 := hide (fun (X : World) (hX : Below W.heap.size W X) => Calls.bool_of (pacesThere_any ((unhide Hv).below hX).paces ((unhide Hv).below hX).rooms) hq5)
  have H6 := hide (fun (X : World) (hX : Below W.heap.size W X) => Calls.bool_of (Calls.same_below' (liesFrom_any 0 m.now 1000000 X)) hq6)
  clear hq1 hq2 hq3 hq4 hq5 hq6
  generalize benchesV m.rooms = nb at *
  have c0 := (unhide kb).cell (i := 0) (v := .slice a0 m.rooms.length p0) rfl
  have c1 := (unhide kb).cell (i := 1) (v := .slice a1 m.guilds.length p1) rfl
  have c2 := (unhide kb).cell (i := 2) (v := .slice a2 m.smiths.length p2) rfl
  have c3 := (unhide kb).cell (i := 3) (v := .slice a3 m.desks.length p3) rfl
  have c4 := (unhide kb).cell (i := 4) (v := .slice a4 m.paces.length p4) rfl
  have c5 := (unhide kb).cell (i := 5) (v := .int .i64 m.now) rfl
  have y0 := cell_regrown c0
  have y1 := cell_regrown c1
  have y2 := cell_regrown c2
  have y3 := cell_regrown c3
  have y4 := cell_regrown c4
  have y5 := cell_regrown c5
  cases q1
  · go_wp2_with fail
    refine wp_region_quiet_below (by kernel_rfl) (by kernel_rfl) ?_
    repeat (go_big_quiet_step (first | exact Calls.regrown_of (unhide H1 _ (below_regrown _ _ _)) | exact Calls.regrown_of (unhide H2 _ (below_regrown _ _ _)) | exact Calls.regrown_of (unhide H3 _ (below_regrown _ _ _)) | exact Calls.regrown_of (unhide H4a _ (below_regrown _ _ _)) | exact Calls.regrown_of (unhide H4 _ (below_regrown _ _ _)) | exact Calls.regrown_of (unhide H5 _ (below_regrown _ _ _)) | exact Calls.regrown_of (unhide H6 _ (below_regrown _ _ _))))
    refine wpQuiet_nil ?_
    intro _ hw'
    obtain ⟨⟨dq, osq⟩, hw''⟩ := hw'
    subst hw''
    go_wp2_with fail
    go_ret
    exact ⟨rfl, (unhide BB).trans ((below_regrown _ _ _).mono (unhide BB).size)⟩
  cases q2
  · go_wp2_with fail
    refine wp_region_quiet_below (by kernel_rfl) (by kernel_rfl) ?_
    repeat (go_big_quiet_step (first | exact Calls.regrown_of (unhide H1 _ (below_regrown _ _ _)) | exact Calls.regrown_of (unhide H2 _ (below_regrown _ _ _)) | exact Calls.regrown_of (unhide H3 _ (below_regrown _ _ _)) | exact Calls.regrown_of (unhide H4a _ (below_regrown _ _ _)) | exact Calls.regrown_of (unhide H4 _ (below_regrown _ _ _)) | exact Calls.regrown_of (unhide H5 _ (below_regrown _ _ _)) | exact Calls.regrown_of (unhide H6 _ (below_regrown _ _ _))))
    refine wpQuiet_nil ?_
    intro _ hw'
    obtain ⟨⟨dq, osq⟩, hw''⟩ := hw'
    subst hw''
    go_wp2_with fail
    go_ret
    exact ⟨rfl, (unhide BB).trans ((below_regrown _ _ _).mono (unhide BB).size)⟩
  cases q3
  · go_wp2_with fail
    refine wp_region_quiet_below (by kernel_rfl) (by kernel_rfl) ?_
    repeat (go_big_quiet_step (first | exact Calls.regrown_of (unhide H1 _ (below_regrown _ _ _)) | exact Calls.regrown_of (unhide H2 _ (below_regrown _ _ _)) | exact Calls.regrown_of (unhide H3 _ (below_regrown _ _ _)) | exact Calls.regrown_of (unhide H4a _ (below_regrown _ _ _)) | exact Calls.regrown_of (unhide H4 _ (below_regrown _ _ _)) | exact Calls.regrown_of (unhide H5 _ (below_regrown _ _ _)) | exact Calls.regrown_of (unhide H6 _ (below_regrown _ _ _))))
    refine wpQuiet_nil ?_
    intro _ hw'
    obtain ⟨⟨dq, osq⟩, hw''⟩ := hw'
    subst hw''
    go_wp2_with fail
    go_ret
    exact ⟨rfl, (unhide BB).trans ((below_regrown _ _ _).mono (unhide BB).size)⟩
  cases q4
  · go_wp2_with fail
    refine wp_region_quiet_below (by kernel_rfl) (by kernel_rfl) ?_
    repeat (go_big_quiet_step (first | exact Calls.regrown_of (unhide H1 _ (below_regrown _ _ _)) | exact Calls.regrown_of (unhide H2 _ (below_regrown _ _ _)) | exact Calls.regrown_of (unhide H3 _ (below_regrown _ _ _)) | exact Calls.regrown_of (unhide H4a _ (below_regrown _ _ _)) | exact Calls.regrown_of (unhide H4 _ (below_regrown _ _ _)) | exact Calls.regrown_of (unhide H5 _ (below_regrown _ _ _)) | exact Calls.regrown_of (unhide H6 _ (below_regrown _ _ _))))
    refine wpQuiet_nil ?_
    intro _ hw'
    obtain ⟨⟨dq, osq⟩, hw''⟩ := hw'
    subst hw''
    go_wp2_with fail
    go_ret
    exact ⟨rfl, (unhide BB).trans ((below_regrown _ _ _).mono (unhide BB).size)⟩
  cases q5
  · go_wp2_with fail
    refine wp_region_quiet_below (by kernel_rfl) (by kernel_rfl) ?_
    repeat (go_big_quiet_step (first | exact Calls.regrown_of (unhide H1 _ (below_regrown _ _ _)) | exact Calls.regrown_of (unhide H2 _ (below_regrown _ _ _)) | exact Calls.regrown_of (unhide H3 _ (below_regrown _ _ _)) | exact Calls.regrown_of (unhide H4a _ (below_regrown _ _ _)) | exact Calls.regrown_of (unhide H4 _ (below_regrown _ _ _)) | exact Calls.regrown_of (unhide H5 _ (below_regrown _ _ _)) | exact Calls.regrown_of (unhide H6 _ (below_regrown _ _ _))))
    refine wpQuiet_nil ?_
    intro _ hw'
    obtain ⟨⟨dq, osq⟩, hw''⟩ := hw'
    subst hw''
    go_wp2_with fail
    go_ret
    exact ⟨rfl, (unhide BB).trans ((below_regrown _ _ _).mono (unhide BB).size)⟩
  go_wp2_with fail
  refine wp_region_quiet_below (by kernel_rfl) (by kernel_rfl) ?_
  repeat (go_big_quiet_step (first | exact Calls.regrown_of (unhide H1 _ (below_regrown _ _ _)) | exact Calls.regrown_of (unhide H2 _ (below_regrown _ _ _)) | exact Calls.regrown_of (unhide H3 _ (below_regrown _ _ _)) | exact Calls.regrown_of (unhide H4a _ (below_regrown _ _ _)) | exact Calls.regrown_of (unhide H4 _ (below_regrown _ _ _)) | exact Calls.regrown_of (unhide H5 _ (below_regrown _ _ _)) | exact Calls.regrown_of (unhide H6 _ (below_regrown _ _ _))))
  refine wpQuiet_nil ?_
  intro _ hw'
  obtain ⟨⟨dq, osq⟩, hw''⟩ := hw'
  subst hw''
  go_wp2_with fail
  go_ret
  exact ⟨ret_bool (by simp), (unhide BB).trans ((below_regrown _ _ _).mono (unhide BB).size)⟩
set_option maxHeartbeats 2000000 in
theorem allInPlace_any {w : World} {v0 v1 v2 v3 v4 : Value} {m : SmyV} (h : Smy w v0 v1 v2 v3 v4 m) : Calls Tryz.prog 58 #[.agg #[v0, v1, v2, v3, v4, .int .i64 m.now]] w fun e w' => e = .returned (.bool (inPlaceIB m)) ∧ Below w.heap.size w w' := by
  have Hv := hide (h.alloc (.cells #[v0, v1, v2, v3, v4, .int .i64 m.now] 32))
  obtain ⟨a0, p0, rfl, _, _⟩ := IsRooms.shape h.rooms
  obtain ⟨a1, p1, rfl, _, _⟩ := IsRec.shape h.guilds
  obtain ⟨a2, p2, rfl, _, _⟩ := IsRec.shape h.smiths
  obtain ⟨a3, p3, rfl, _, _⟩ := IsRec.shape h.desks
  obtain ⟨a4, p4, rfl, _, _⟩ := IsRec.shape h.paces
  clear h
  obtain ⟨q1, hq1⟩ : ∃ q, partsIB m = q := ⟨_, rfl⟩
  obtain ⟨q2, hq2⟩ : ∃ q, allTo (placeB m.desks) m.smiths m.smiths.length = q := ⟨_, rfl⟩
  refine Calls.bool_of (q := (q1 && q2)) ?_ (by unfold inPlaceIB; rw [hq1, hq2])
  have H1 := hide hq1
  have H2 := hide hq2
  clear hq1 hq2
  have kb : Hid (Blk (w.alloc (.cells #[.slice a0 m.rooms.length p0, .slice a1 m.guilds.length p1, .slice a2 m.smiths.length p2, .slice a3 m.desks.length p3, .slice a4 m.paces.length p4, .int .i64 m.now] 32)) w.heap.size 32 #[.slice a0 m.rooms.length p0, .slice a1 m.guilds.length p1, .slice a2 m.smiths.length p2, .slice a3 m.desks.length p3, .slice a4 m.paces.length p4, .int .i64 m.now]) := hide (Blk.new w _ _)
  have BB : Hid (Below w.heap.size w (w.alloc (.cells #[.slice a0 m.rooms.length p0, .slice a1 m.guilds.length p1, .slice a2 m.smiths.length p2, .slice a3 m.desks.length p3, .slice a4 m.paces.length p4, .int .i64 m.now] 32))) := hide ((Below.refl _ _).alloc (Nat.le_refl _) _)
  go_enter Tryz.func58, Tryz.ntmps58
  go_wp2_with fail
  generalize w.alloc (.cells #[.slice a0 m.rooms.length p0, .slice a1 m.guilds.length p1, .slice a2 m.smiths.length p2, .slice a3 m.desks.length p3, .slice a4 m.paces.length p4, .int .i64 m.now] 32) = W at *
  refine (partsOk_any (unhide Hv)).mono ?_
  rw [unhide H1]
  rintro e w1 ⟨rfl, hb⟩
  replace Hv := hide ((unhide Hv).below hb)
  replace kb := hide ((unhide kb).below hb (unhide kb).lt)
  replace BB := hide ((unhide BB).trans (hb.mono (unhide BB).size))
  clear hb
  cases q1
  · go_wp2_with fail
    go_ret
    exact ⟨rfl, unhide BB⟩
  have c0 := (unhide kb).cell (i := 0) (v := .slice a0 m.rooms.length p0) rfl
  have c1 := (unhide kb).cell (i := 1) (v := .slice a1 m.guilds.length p1) rfl
  have c2 := (unhide kb).cell (i := 2) (v := .slice a2 m.smiths.length p2) rfl
  have c3 := (unhide kb).cell (i := 3) (v := .slice a3 m.desks.length p3) rfl
  have c4 := (unhide kb).cell (i := 4) (v := .slice a4 m.paces.length p4) rfl
  have c5 := (unhide kb).cell (i := 5) (v := .int .i64 m.now) rfl
  go_wp2_with fail
  refine (smithsOf_any _ _ _ _ _ _ _ _ _ _ _ _ _ _ _ _ _).mono ?_
  rintro e w2 ⟨rfl, hb⟩
  replace Hv := hide ((unhide Hv).below hb)
  replace kb := hide ((unhide kb).below hb (unhide kb).lt)
  replace BB := hide ((unhide BB).trans (hb.mono (unhide BB).size))
  clear hb c0 c1 c2 c3 c4 c5
  go_wp2_with fail
  refine (allPlace_any (unhide Hv).smiths ((unhide kb).cell (i := 3) rfl) (unhide kb).lt (unhide Hv).desks).mono ?_
  rw [unhide H2]
  rintro e w3 ⟨rfl, hb⟩
  replace BB := hide ((unhide BB).trans (hb.mono (unhide BB).size))
  clear hb
  go_wp2_with fail
  go_ret
  exact ⟨ret_bool (by simp), unhide BB⟩
set_option maxHeartbeats 2000000 in
theorem whoIsAt_any {w : World} {v0 v1 v2 v3 v4 : Value} {m : SmyV} (b : Int) (h : Smy w v0 v1 v2 v3 v4 m) (hl : m.smiths.length ≤ 1000) : Calls Tryz.prog 131 #[.agg #[v0, v1, v2, v3, v4, .int .i64 m.now], .int .i64 b] w fun e w' => ∃ v', e = .returned v' ∧ NumsAt w.heap.size w' v' (whereTo (atB b) m.smiths m.smiths.length) ∧ Below w.heap.size w w' := by
  have Hv := hide ((h.alloc (.cells #[v0, v1, v2, v3, v4, .int .i64 m.now] 32)).alloc (.cells #[.int .i64 b] 2))
  obtain ⟨a0, p0, rfl, _, _⟩ := IsRooms.shape h.rooms
  obtain ⟨a1, p1, rfl, _, _⟩ := IsRec.shape h.guilds
  obtain ⟨a2, p2, rfl, _, _⟩ := IsRec.shape h.smiths
  obtain ⟨a3, p3, rfl, _, _⟩ := IsRec.shape h.desks
  obtain ⟨a4, p4, rfl, _, _⟩ := IsRec.shape h.paces
  clear h
  have BB : Hid (Below w.heap.size w ((w.alloc (.cells #[.slice a0 m.rooms.length p0, .slice a1 m.guilds.length p1, .slice a2 m.smiths.length p2, .slice a3 m.desks.length p3, .slice a4 m.paces.length p4, .int .i64 m.now] 32)).alloc (.cells #[.int .i64 b] 2))) := hide (((Below.refl _ _).alloc (Nat.le_refl _) _).alloc (by simp) _)
  have kc : Hid (Blk ((w.alloc (.cells #[.slice a0 m.rooms.length p0, .slice a1 m.guilds.length p1, .slice a2 m.smiths.length p2, .slice a3 m.desks.length p3, .slice a4 m.paces.length p4, .int .i64 m.now] 32)).alloc (.cells #[.int .i64 b] 2)) (w.heap.size + 1) 2 #[.int .i64 b]) := hide (by
    have k := Blk.new (w.alloc (.cells #[.slice a0 m.rooms.length p0, .slice a1 m.guilds.length p1, .slice a2 m.smiths.length p2, .slice a3 m.desks.length p3, .slice a4 m.paces.length p4, .int .i64 m.now] 32)) 2 #[.int .i64 b]
    rw [World.size_alloc] at k
    exact k)
  go_enter Tryz.func131, Tryz.ntmps131
  go_wp2_with fail
  generalize (w.alloc (.cells #[.slice a0 m.rooms.length p0, .slice a1 m.guilds.length p1, .slice a2 m.smiths.length p2, .slice a3 m.desks.length p3, .slice a4 m.paces.length p4, .int .i64 m.now] 32)).alloc (.cells #[.int .i64 b] 2) = W at *
  refine (smithsOf_any _ _ _ _ _ _ _ _ _ _ _ _ _ _ _ _ _).mono ?_
  rintro e w2 ⟨rfl, hb⟩
  replace Hv := hide ((unhide Hv).below hb)
  replace kc := hide ((unhide kc).below hb (unhide kc).lt)
  replace BB := hide ((unhide BB).trans (hb.mono (unhide BB).size))
  clear hb
  go_wp2_with fail
  refine (whereAt_any (unhide Hv).smiths hl ((unhide kc).cell (i := 0) rfl) (unhide kc).lt).mono ?_
  rintro e w3 ⟨v', rfl, hn, hb⟩
  have HN := hide (RecAt.mono hn (unhide BB).size)
  replace BB := hide ((unhide BB).trans (hb.mono (unhide BB).size))
  obtain ⟨la, lc, rfl⟩ := RecAt.shape hn
  clear hb hn
  go_wp2_with fail
  go_ret
  exact ⟨_, rfl, unhide HN, unhide BB⟩
set_option maxHeartbeats 2000000 in
theorem whoWorksAt_any {w : World} {v0 v1 v2 v3 v4 : Value} {m : SmyV} (b : Int) (h : Smy w v0 v1 v2 v3 v4 m) (hl : m.smiths.length ≤ 1000) : Calls Tryz.prog 175 #[.agg #[v0, v1, v2, v3, v4, .int .i64 m.now], .int .i64 b] w fun e w' => ∃ v', e = .returned v' ∧ NumsAt w.heap.size w' v' (whereTo (worksB b) m.smiths m.smiths.length) ∧ Below w.heap.size w w' := by
  have Hv := hide ((h.alloc (.cells #[v0, v1, v2, v3, v4, .int .i64 m.now] 32)).alloc (.cells #[.int .i64 b] 2))
  obtain ⟨a0, p0, rfl, _, _⟩ := IsRooms.shape h.rooms
  obtain ⟨a1, p1, rfl, _, _⟩ := IsRec.shape h.guilds
  obtain ⟨a2, p2, rfl, _, _⟩ := IsRec.shape h.smiths
  obtain ⟨a3, p3, rfl, _, _⟩ := IsRec.shape h.desks
  obtain ⟨a4, p4, rfl, _, _⟩ := IsRec.shape h.paces
  clear h
  have BB : Hid (Below w.heap.size w ((w.alloc (.cells #[.slice a0 m.rooms.length p0, .slice a1 m.guilds.length p1, .slice a2 m.smiths.length p2, .slice a3 m.desks.length p3, .slice a4 m.paces.length p4, .int .i64 m.now] 32)).alloc (.cells #[.int .i64 b] 2))) := hide (((Below.refl _ _).alloc (Nat.le_refl _) _).alloc (by simp) _)
  have kc : Hid (Blk ((w.alloc (.cells #[.slice a0 m.rooms.length p0, .slice a1 m.guilds.length p1, .slice a2 m.smiths.length p2, .slice a3 m.desks.length p3, .slice a4 m.paces.length p4, .int .i64 m.now] 32)).alloc (.cells #[.int .i64 b] 2)) (w.heap.size + 1) 2 #[.int .i64 b]) := hide (by
    have k := Blk.new (w.alloc (.cells #[.slice a0 m.rooms.length p0, .slice a1 m.guilds.length p1, .slice a2 m.smiths.length p2, .slice a3 m.desks.length p3, .slice a4 m.paces.length p4, .int .i64 m.now] 32)) 2 #[.int .i64 b]
    rw [World.size_alloc] at k
    exact k)
  go_enter Tryz.func175, Tryz.ntmps175
  go_wp2_with fail
  generalize (w.alloc (.cells #[.slice a0 m.rooms.length p0, .slice a1 m.guilds.length p1, .slice a2 m.smiths.length p2, .slice a3 m.desks.length p3, .slice a4 m.paces.length p4, .int .i64 m.now] 32)).alloc (.cells #[.int .i64 b] 2) = W at *
  refine (smithsOf_any _ _ _ _ _ _ _ _ _ _ _ _ _ _ _ _ _).mono ?_
  rintro e w2 ⟨rfl, hb⟩
  replace Hv := hide ((unhide Hv).below hb)
  replace kc := hide ((unhide kc).below hb (unhide kc).lt)
  replace BB := hide ((unhide BB).trans (hb.mono (unhide BB).size))
  clear hb
  go_wp2_with fail
  refine (whereWorks_any (unhide Hv).smiths hl ((unhide kc).cell (i := 0) rfl) (unhide kc).lt).mono ?_
  rintro e w3 ⟨v', rfl, hn, hb⟩
  have HN := hide (RecAt.mono hn (unhide BB).size)
  replace BB := hide ((unhide BB).trans (hb.mono (unhide BB).size))
  obtain ⟨la, lc, rfl⟩ := RecAt.shape hn
  clear hb hn
  go_wp2_with fail
  go_ret
  exact ⟨_, rfl, unhide HN, unhide BB⟩
set_option maxHeartbeats 4000000 in
theorem turnOk_any {w : World} {v0 v1 v2 v3 v4 : Value} {m : SmyV} {b : Nat} (h : Smy w v0 v1 v2 v3 v4 m) (hl : m.smiths.length ≤ 1000) (hb0 : b < m.desks.length) : Calls Tryz.prog 123 #[.agg #[v0, v1, v2, v3, v4, .int .i64 m.now], .int .i64 (b : Int)] w fun e w' => e = .returned (.bool (turnIB m b)) ∧ Below w.heap.size w w' := by
  have Hv := hide (h.alloc (.cells #[v0, v1, v2, v3, v4, .int .i64 m.now] 32))
  obtain ⟨a0, p0, rfl, _, _⟩ := IsRooms.shape h.rooms
  obtain ⟨a1, p1, rfl, _, _⟩ := IsRec.shape h.guilds
  obtain ⟨a2, p2, rfl, _, _⟩ := IsRec.shape h.smiths
  obtain ⟨a3, p3, rfl, hc3, hm3, r3⟩ := h.desks
  obtain ⟨a4, p4, rfl, _, _⟩ := IsRec.shape h.paces
  clear h
  rcases r3 with e0 | ⟨db, off, rfl, hbw, hcl⟩
  · rw [e0] at hb0; simp at hb0
  obtain ⟨_, d1, _⟩ := desk_cells hcl hb0
  have hb1 : (b : Int) < (m.desks.length : Int) := by omega
  have hT : turnIB m b = if (recAt m.desks b).2.1 = -1 then decide ((whereTo (atB b) m.smiths m.smiths.length).length = 0) else decide ((whereTo (worksB b) m.smiths m.smiths.length).length = 1) && decide (recAt (whereTo (worksB b) m.smiths m.smiths.length) 0 = (recAt m.desks b).2.1) := rfl
  have HT := hide hT
  clear hT hcl
  generalize (recAt m.desks b).2.1 = who at *
  have hne : db ≠ w.heap.size := Nat.ne_of_lt hbw
  have kb : Hid (Blk (w.alloc (.cells #[.slice a0 m.rooms.length p0, .slice a1 m.guilds.length p1, .slice a2 m.smiths.length p2, .slice (some ⟨db, off, none⟩) m.desks.length p3, .slice a4 m.paces.length p4, .int .i64 m.now] 32)) w.heap.size 32 #[.slice a0 m.rooms.length p0, .slice a1 m.guilds.length p1, .slice a2 m.smiths.length p2, .slice (some ⟨db, off, none⟩) m.desks.length p3, .slice a4 m.paces.length p4, .int .i64 m.now]) := hide (Blk.new w _ _)
  have BB : Hid (Below w.heap.size w (w.alloc (.cells #[.slice a0 m.rooms.length p0, .slice a1 m.guilds.length p1, .slice a2 m.smiths.length p2, .slice (some ⟨db, off, none⟩) m.desks.length p3, .slice a4 m.paces.length p4, .int .i64 m.now] 32))) := hide ((Below.refl _ _).alloc (Nat.le_refl _) _)
  rw [← (unhide BB).cell (p := ⟨db, off + b * 3 + 1, none⟩) hbw] at d1
  by_cases hw : who = -1
  · subst hw
    obtain ⟨ws, hws⟩ : ∃ ws, whereTo (atB b) m.smiths m.smiths.length = ws := ⟨_, rfl⟩
    refine Calls.bool_of (q := decide (ws.length = 0)) ?_ (by rw [unhide HT, if_pos rfl, hws])
    have Hws := hide hws
    clear hws HT
    go_enter Tryz.func123, Tryz.ntmps123
    go_upto_region 3 with fail
    generalize w.alloc (.cells #[.slice a0 m.rooms.length p0, .slice a1 m.guilds.length p1, .slice a2 m.smiths.length p2, .slice (some ⟨db, off, none⟩) m.desks.length p3, .slice a4 m.paces.length p4, .int .i64 m.now] 32) = W at *
    have c0 := (unhide kb).cell (i := 0) (v := .slice a0 m.rooms.length p0) rfl
    have c1 := (unhide kb).cell (i := 1) (v := .slice a1 m.guilds.length p1) rfl
    have c2 := (unhide kb).cell (i := 2) (v := .slice a2 m.smiths.length p2) rfl
    have c3 := (unhide kb).cell (i := 3) (v := .slice (some ⟨db, off, none⟩) m.desks.length p3) rfl
    have c4 := (unhide kb).cell (i := 4) (v := .slice a4 m.paces.length p4) rfl
    have c5 := (unhide kb).cell (i := 5) (v := .int .i64 m.now) rfl
    go_wp2_with fail
    refine (whoIsAt_any (b : Int) (unhide Hv) hl).mono ?_
    rw [unhide Hws]
    rintro e w2 ⟨v', rfl, hn, hb⟩
    obtain ⟨la, lc, rfl⟩ := RecAt.shape hn
    replace BB := hide ((unhide BB).trans (hb.mono (unhide BB).size))
    clear hb hn c0 c1 c2 c3 c4 c5
    go_wp2_with fail
    go_ret
    exact ⟨ret_bool (by rw [Bool.eq_iff_iff]; simp only [beq_iff_eq, decide_eq_true_eq]; omega), unhide BB⟩
  have nw : (who == -1) = false := by simpa using hw
  obtain ⟨ws, hws⟩ : ∃ ws, whereTo (worksB b) m.smiths m.smiths.length = ws := ⟨_, rfl⟩
  refine Calls.bool_of (q := decide (ws.length = 1) && decide (recAt ws 0 = who)) ?_ (by rw [unhide HT, if_neg hw, hws])
  have Hws := hide hws
  clear hws HT
  go_enter Tryz.func123, Tryz.ntmps123
  go_upto_region 3 with fail
  generalize w.alloc (.cells #[.slice a0 m.rooms.length p0, .slice a1 m.guilds.length p1, .slice a2 m.smiths.length p2, .slice (some ⟨db, off, none⟩) m.desks.length p3, .slice a4 m.paces.length p4, .int .i64 m.now] 32) = W at *
  have c0 := (unhide kb).cell (i := 0) (v := .slice a0 m.rooms.length p0) rfl
  have c1 := (unhide kb).cell (i := 1) (v := .slice a1 m.guilds.length p1) rfl
  have c2 := (unhide kb).cell (i := 2) (v := .slice a2 m.smiths.length p2) rfl
  have c3 := (unhide kb).cell (i := 3) (v := .slice (some ⟨db, off, none⟩) m.desks.length p3) rfl
  have c4 := (unhide kb).cell (i := 4) (v := .slice a4 m.paces.length p4) rfl
  have c5 := (unhide kb).cell (i := 5) (v := .int .i64 m.now) rfl
  go_wp2_with fail
  refine (whoWorksAt_any (b : Int) (unhide Hv) hl).mono ?_
  rw [unhide Hws]
  rintro e w2 ⟨v', rfl, hn, hb⟩
  obtain ⟨la, lc, rfl⟩ := RecAt.shape hn
  replace BB := hide ((unhide BB).trans (hb.mono (unhide BB).size))
  have HN := hide hn
  clear hb hn c0 c1 c2 c3 c4 c5
  by_cases h1 : ws.length = 1
  · obtain ⟨g, hga, _, _, hcl, _⟩ := RecAt.view encNum_len (by omega) (unhide HN) rfl (by omega)
    cases hga
    have z0 := hcl 0 (by omega) 0 _ rfl
    simp only [Nat.zero_mul, Nat.add_zero] at z0
    have hl1 : ((ws.length : Int) == 1) = true := by simp; omega
    clear hcl
    have h01 : (0 : Int) < (ws.length : Int) := by omega
    obtain ⟨z, hz⟩ : ∃ z, recAt ws 0 = z := ⟨_, rfl⟩
    rw [hz] at z0
    have Hz := hide hz
    clear hz
    go_wp2_with fail
    go_ret
    exact ⟨ret_bool (by rw [unhide Hz, decide_eq_true h1, Bool.eq_iff_iff]; simp only [Bool.true_and, beq_iff_eq, decide_eq_true_eq]), unhide BB⟩
  · have hl1 : ((ws.length : Int) == 1) = false := by simp; omega
    go_wp2_with fail
    go_ret
    exact ⟨ret_bool (by rw [decide_eq_false h1]; rfl), unhide BB⟩
set_option maxHeartbeats 4000000 in
theorem turnsOk_any {w : World} {v0 v1 v2 v3 v4 : Value} {m : SmyV} (h : Smy w v0 v1 v2 v3 v4 m) (hl : m.smiths.length ≤ 1000) : Calls Tryz.prog 59 #[.agg #[v0, v1, v2, v3, v4, .int .i64 m.now]] w fun e w' => e = .returned (.bool (turnsIB m)) ∧ Below w.heap.size w w' := by
  have Hv := hide (h.alloc (.cells #[v0, v1, v2, v3, v4, .int .i64 m.now] 32))
  obtain ⟨a0, p0, rfl, _, _⟩ := IsRooms.shape h.rooms
  obtain ⟨a1, p1, rfl, _, _⟩ := IsRec.shape h.guilds
  obtain ⟨a2, p2, rfl, _, _⟩ := IsRec.shape h.smiths
  obtain ⟨a3, p3, rfl, _, _⟩ := IsRec.shape h.desks
  obtain ⟨a4, p4, rfl, _, _⟩ := IsRec.shape h.paces
  clear h
  have kb0 : Hid (Blk (w.alloc (.cells #[.slice a0 m.rooms.length p0, .slice a1 m.guilds.length p1, .slice a2 m.smiths.length p2, .slice a3 m.desks.length p3, .slice a4 m.paces.length p4, .int .i64 m.now] 32)) w.heap.size 32 #[.slice a0 m.rooms.length p0, .slice a1 m.guilds.length p1, .slice a2 m.smiths.length p2, .slice a3 m.desks.length p3, .slice a4 m.paces.length p4, .int .i64 m.now]) := hide (Blk.new w _ _)
  have BB0 : Hid (Below w.heap.size w (w.alloc (.cells #[.slice a0 m.rooms.length p0, .slice a1 m.guilds.length p1, .slice a2 m.smiths.length p2, .slice a3 m.desks.length p3, .slice a4 m.paces.length p4, .int .i64 m.now] 32))) := hide ((Below.refl _ _).alloc (Nat.le_refl _) _)
  go_enter Tryz.func59, Tryz.ntmps59
  go_wp2_with fail
  go_loopw [7] (fun i wr => ∃ k : Nat, k ≤ m.desks.length ∧ i = .int .i64 k ∧ (List.range k).all (turnIB m) = true ∧ Smy wr (.slice a0 m.rooms.length p0) (.slice a1 m.guilds.length p1) (.slice a2 m.smiths.length p2) (.slice a3 m.desks.length p3) (.slice a4 m.paces.length p4) m ∧ Blk wr w.heap.size 32 #[.slice a0 m.rooms.length p0, .slice a1 m.guilds.length p1, .slice a2 m.smiths.length p2, .slice a3 m.desks.length p3, .slice a4 m.paces.length p4, .int .i64 m.now] ∧ Below w.heap.size w wr) (fun i _ => m.desks.length - (intOf i).toNat)
  case atStart => exact ⟨0, Nat.zero_le _, rfl, rfl, unhide Hv, unhide kb0, unhide BB0⟩
  case round =>
    obtain ⟨k, hk, rfl, hst, hv, hkb, hb0⟩ := hrel
    have Hst := hide hst
    have Hv1 := hide hv
    have kb := hide hkb
    have BB := hide hb0
    clear hv hkb hb0 kb0 BB0 Hv
    by_cases hlt : k < m.desks.length
    · have hlt1 : (k : Int) < (m.desks.length : Int) := by omega
      have HU := hide (fun (hh : turnIB m k = true) => (show (List.range (k + 1)).all (turnIB m) = true from by rw [all_up, hst, hh]; rfl))
      have HN := hide (fun hh => (show turnsIB m = false from all_no (p := turnIB m) hlt hh))
      clear hst
      obtain ⟨q, hq⟩ : ∃ q, turnIB m k = q := ⟨_, rfl⟩
      have Hq := hide hq
      clear hq
      have c0 := (unhide kb).cell (i := 0) (v := .slice a0 m.rooms.length p0) rfl
      have c1 := (unhide kb).cell (i := 1) (v := .slice a1 m.guilds.length p1) rfl
      have c2 := (unhide kb).cell (i := 2) (v := .slice a2 m.smiths.length p2) rfl
      have c3 := (unhide kb).cell (i := 3) (v := .slice a3 m.desks.length p3) rfl
      have c4 := (unhide kb).cell (i := 4) (v := .slice a4 m.paces.length p4) rfl
      have c5 := (unhide kb).cell (i := 5) (v := .int .i64 m.now) rfl
      go_wp2_with fail
      refine (turnOk_any (unhide Hv1) hl hlt).mono ?_
      rw [unhide Hq]
      rintro e w1 ⟨rfl, hb⟩
      replace Hv1 := hide ((unhide Hv1).below hb)
      replace kb := hide ((unhide kb).below hb (unhide kb).lt)
      replace BB := hide ((unhide BB).trans (hb.mono (unhide BB).size))
      clear hb c0 c1 c2 c3 c4 c5
      cases q
      · go_wp2_with fail
        go_ret
        exact ⟨ret_bool (unhide HN (unhide Hq)).symm, unhide BB⟩
      · go_wp2_with fail
        go_roundw
        case rel => exact ⟨k + 1, by omega, by go_num, unhide HU (unhide Hq), unhide Hv1, unhide kb, unhide BB⟩
        case measure => simp [intOf]; omega
    · obtain rfl : k = m.desks.length := by omega
      go_wp2_with fail
      go_ret
      exact ⟨ret_bool (unhide Hst).symm, unhide BB⟩
theorem parts_few {m : SmyV} (h : inPlaceIB m = true) : m.smiths.length ≤ 12 := by
  rw [loose_same] at h
  unfold looseB headB at h
  simp only [Bool.and_eq_true, decide_eq_true_eq] at h
  exact h.1.2.2.1
set_option maxHeartbeats 2000000 in
theorem implSmithyOk_any {w : World} {v0 v1 v2 v3 v4 : Value} {m : SmyV} (h : Smy w v0 v1 v2 v3 v4 m) : Calls Tryz.prog 26 #[.agg #[v0, v1, v2, v3, v4, .int .i64 m.now]] w fun e w' => e = .returned (.bool (smyB m)) ∧ Below w.heap.size w w' := by
  have Hv := hide (h.alloc (.cells #[v0, v1, v2, v3, v4, .int .i64 m.now] 32))
  obtain ⟨a0, p0, rfl, _, _⟩ := IsRooms.shape h.rooms
  obtain ⟨a1, p1, rfl, _, _⟩ := IsRec.shape h.guilds
  obtain ⟨a2, p2, rfl, _, _⟩ := IsRec.shape h.smiths
  obtain ⟨a3, p3, rfl, _, _⟩ := IsRec.shape h.desks
  obtain ⟨a4, p4, rfl, _, _⟩ := IsRec.shape h.paces
  clear h
  obtain ⟨q1, hq1⟩ : ∃ q, inPlaceIB m = q := ⟨_, rfl⟩
  obtain ⟨q2, hq2⟩ : ∃ q, turnsIB m = q := ⟨_, rfl⟩
  refine Calls.bool_of (q := (q1 && q2)) ?_ (by rw [← smy_same]; unfold smyIB; rw [hq1, hq2])
  have H1 := hide hq1
  have H2 := hide hq2
  clear hq1 hq2
  have kb : Hid (Blk (w.alloc (.cells #[.slice a0 m.rooms.length p0, .slice a1 m.guilds.length p1, .slice a2 m.smiths.length p2, .slice a3 m.desks.length p3, .slice a4 m.paces.length p4, .int .i64 m.now] 32)) w.heap.size 32 #[.slice a0 m.rooms.length p0, .slice a1 m.guilds.length p1, .slice a2 m.smiths.length p2, .slice a3 m.desks.length p3, .slice a4 m.paces.length p4, .int .i64 m.now]) := hide (Blk.new w _ _)
  have BB : Hid (Below w.heap.size w (w.alloc (.cells #[.slice a0 m.rooms.length p0, .slice a1 m.guilds.length p1, .slice a2 m.smiths.length p2, .slice a3 m.desks.length p3, .slice a4 m.paces.length p4, .int .i64 m.now] 32))) := hide ((Below.refl _ _).alloc (Nat.le_refl _) _)
  go_enter Tryz.func26, Tryz.ntmps26
  go_wp2_with fail
  generalize w.alloc (.cells #[.slice a0 m.rooms.length p0, .slice a1 m.guilds.length p1, .slice a2 m.smiths.length p2, .slice a3 m.desks.length p3, .slice a4 m.paces.length p4, .int .i64 m.now] 32) = W at *
  refine (allInPlace_any (unhide Hv)).mono ?_
  rw [unhide H1]
  rintro e w1 ⟨rfl, hb⟩
  replace Hv := hide ((unhide Hv).below hb)
  replace kb := hide ((unhide kb).below hb (unhide kb).lt)
  replace BB := hide ((unhide BB).trans (hb.mono (unhide BB).size))
  clear hb
  cases q1
  · go_wp2_with fail
    go_ret
    exact ⟨rfl, unhide BB⟩
  have c0 := (unhide kb).cell (i := 0) (v := .slice a0 m.rooms.length p0) rfl
  have c1 := (unhide kb).cell (i := 1) (v := .slice a1 m.guilds.length p1) rfl
  have c2 := (unhide kb).cell (i := 2) (v := .slice a2 m.smiths.length p2) rfl
  have c3 := (unhide kb).cell (i := 3) (v := .slice a3 m.desks.length p3) rfl
  have c4 := (unhide kb).cell (i := 4) (v := .slice a4 m.paces.length p4) rfl
  have c5 := (unhide kb).cell (i := 5) (v := .int .i64 m.now) rfl
  go_wp2_with fail
  refine (turnsOk_any (unhide Hv) (by have := parts_few (unhide H1); omega)).mono ?_
  rw [unhide H2]
  rintro e w2 ⟨rfl, hb⟩
  replace BB := hide ((unhide BB).trans (hb.mono (unhide BB).size))
  clear hb c0 c1 c2 c3 c4 c5
  go_wp2_with fail
  go_ret
  exact ⟨ret_bool (by simp), unhide BB⟩
theorem implSmithyOk_q (w : World) (v0 v1 v2 v3 v4 : Value) (m : SmyV) (q : Bool) (hq : smyB m = q) (h : Smy w v0 v1 v2 v3 v4 m) : Calls Tryz.prog 26 #[.agg #[v0, v1, v2, v3, v4, .int .i64 m.now]] w fun e w' => e = .returned (.bool q) ∧ Below w.heap.size w w' := Calls.bool_of (implSmithyOk_any h) hq

end Go.Proofs.YtifolooecfebfaaGreat

