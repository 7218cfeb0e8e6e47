/- What the proof rests on, part 12: lists and numbers, how they lie in memory, and contracts of the calls. No condition but those that a theorem names. -/
import Derived.Test.YtaegckehjlkaaaaGreatXe01
import Derived.Test.YtaegckehjlkaaaaGreatXe02
import Derived.Test.YtaegckehjlkaaaaGreatXe03
import Derived.Test.YtaegckehjlkaaaaGreatXe04
import Derived.Test.YtaegckehjlkaaaaGreatXe05
import Derived.Test.YtaegckehjlkaaaaGreatXe06
import Derived.Test.YtaegckehjlkaaaaGreatXe07
import Derived.Test.YtaegckehjlkaaaaGreatXe08
import Derived.Test.YtaegckehjlkaaaaGreatXe09
import Derived.Test.YtaegckehjlkaaaaGreatXe10
import Derived.Test.YtaegckehjlkaaaaGreatXe11
import Derived.WalkMore
import Derived.Below
import Derived.ChangeKeysEq
import Derived.Laws.StructEq
import Derived.WalkKit
import Derived.ProofKit
import Derived.OpenShut
import Derived.Outline
import Derived.Deep.RegionHeld3
import Derived.Deep.DrawnRows
import Derived.BigRegion
import Derived.Deep.RegionLawGrows
import Derived.Deep.LoopGhost
import Derived.Lib.QuietBelow
import Derived.Deep.RegionWith
import Derived.Deep.QuietTactic
import Derived.BigQuiet
import Derived.Laws.OwnMore
import Derived.OwnWalk
import Derived.Maps.AppendAt
import Derived.RangeFuncNested
import Derived.RangeFuncBound
import Derived.RangeFuncCalls
import Derived.RangeFuncLeaves
import Derived.RangeFuncBox
import Derived.Shelf.Abstract
import Derived.Shelf.RegionOpen
import Derived.OwnWalkIn
import Derived.TacticsInMore
import Derived.LoopNIn
import Derived.LoopIn
import Derived.Lib.SmallJoins
import Derived.Deep.Fields
import Derived.Deep.Slices
import Derived.OrdersHeld
import Derived.Deep.RegionHeldLaw
import Derived.Deep.DeepCutAuto
/- Contract of the program's SmithyOk: it answers what the lists say, and that is what the model answers. Condition: the smithy can be read. -/
namespace Go.Proofs.YtaegckehjlkaaaaGreat
open Go.ChangeShapes Go.WideShapes Go.ChangeAt Go.RowKit Go.Sort
set_option linter.unusedVariables false
set_option maxRecDepth 100000

theorem allInPlace1_any (st be rk my gu lo hi hd ca ut wk : Int) {R n3 p3 : Nat} {a3 : Option Addr} {ds : List DeskV} {w : World} (hc : w.cell? ⟨R, 3, none⟩ = some (.slice a3 n3 p3)) (hR : R < w.heap.size) (h : IsDesks w (.slice a3 n3 p3) ds) : Calls Tryz.prog 128 #[.agg #[.int .i64 st, .int .i64 be, .int .i64 rk, .int .i64 my, .int .i64 gu, .int .i64 lo, .int .i64 hi, .int .i64 hd, .int .i64 ca, .int .i64 ut, .int .i64 wk], .pointer (some ⟨R, 0, none⟩)] w fun e w' => e = .returned (.bool (placeB ds (st, be, rk, my, gu, lo, hi, hd, ca, ut, wk))) ∧ Below w.heap.size w w' := by
  have hne : R ≠ w.heap.size := Nat.ne_of_lt hR
  have HD := hide h
  clear h
  go_enter Tryz.func128, Tryz.ntmps128
  go_wp2_with fail
  refine (isInPlace_any st be rk my gu lo hi hd ca ut wk ((unhide HD).below ((Below.refl _ _).alloc (Nat.le_refl _) _))).mono ?_
  rintro e w1 ⟨rfl, hb⟩
  have Hb := hide (((Below.refl w.heap.size w).alloc (Nat.le_refl _) _).trans (hb.mono (by simp)))
  clear hb
  go_wp2_with fail
  go_ret
  exact ⟨rfl, unhide Hb⟩
set_option maxHeartbeats 4000000 in
theorem allPlace_any {w : World} {v : Value} {ss : List SmithV} {R n3 p3 : Nat} {a3 : Option Addr} {ds : List DeskV} (h : IsSmiths w v ss) (hc0 : w.cell? ⟨R, 3, none⟩ = some (.slice a3 n3 p3)) (hR : R < w.heap.size) (hds : IsDesks w (.slice a3 n3 p3) ds) : Calls Tryz.prog 127 #[v, .func (Fn.func 128) #[] #[.pointer (some ⟨R, 0, none⟩)]] w fun e w' => e = .returned (.bool (allTo (placeB ds) ss ss.length)) ∧ Below w.heap.size w w' := by
  obtain ⟨a, cap, rfl, hc, hm, hr⟩ := h
  have Hr := hide hr
  clear hr
  have HC := hide hc0
  have HD := hide hds
  clear hc0 hds
  go_enter Tryz.func127, Tryz.ntmps127
  go_wp2_with fail
  go_loopw [9] (fun i wr => ∃ k : Nat, k ≤ ss.length ∧ i = .int .i64 k ∧ allTo (placeB ds) ss k = true ∧ Below w.heap.size w wr) (fun i _ => ss.length - (intOf i).toNat)
  case atStart => exact ⟨0, Nat.zero_le _, rfl, rfl, Below.refl _ _⟩
  case round =>
    obtain ⟨k, hk, rfl, hst, hb0⟩ := hrel
    have Hst := hide hst
    have BB := hide hb0
    by_cases hlt : k < ss.length
    · have hlt1 : (k : Int) < (ss.length : Int) := by omega
      rcases unhide Hr with e0 | ⟨b, off, rfl, hbw, hcl⟩
      · rw [e0] at hlt; simp at hlt
      obtain ⟨d0, d1, d2, d3, d4, d5, d6, d7, d8, d9, d10⟩ := smith_cells hcl hlt
      rw [← hb0.cell (p := ⟨b, off + k * 11, none⟩) hbw] at d0
      rw [← hb0.cell (p := ⟨b, off + k * 11 + 1, none⟩) hbw] at d1
      rw [← hb0.cell (p := ⟨b, off + k * 11 + 2, none⟩) hbw] at d2
      rw [← hb0.cell (p := ⟨b, off + k * 11 + 3, none⟩) hbw] at d3
      rw [← hb0.cell (p := ⟨b, off + k * 11 + 4, none⟩) hbw] at d4
      rw [← hb0.cell (p := ⟨b, off + k * 11 + 5, none⟩) hbw] at d5
      rw [← hb0.cell (p := ⟨b, off + k * 11 + 6, none⟩) hbw] at d6
      rw [← hb0.cell (p := ⟨b, off + k * 11 + 7, none⟩) hbw] at d7
      rw [← hb0.cell (p := ⟨b, off + k * 11 + 8, none⟩) hbw] at d8
      rw [← hb0.cell (p := ⟨b, off + k * 11 + 9, none⟩) hbw] at d9
      rw [← hb0.cell (p := ⟨b, off + k * 11 + 10, none⟩) hbw] at d10
      have HU := hide (fun hh => allTo_up (p := (placeB ds)) (xs := ss) (k := k) hst hh)
      have HN := hide (fun hh => allTo_no (p := (placeB ds)) (xs := ss) hlt hh)
      clear hcl hst hb0
      generalize recAt ss k = s at *
      obtain ⟨st, be, rk, my, gu, lo, hi, hd, ca, ut, wk⟩ := s
      simp only at d0 d1 d2 d3 d4 d5 d6 d7 d8 d9 d10
      have hbr : b < wr.heap.size := Nat.lt_of_lt_of_le hbw (unhide BB).size
      go_wp2_with fail
      clear d0 d1 d2 d3 d4 d5 d6 d7 d8 d9 d10
      obtain ⟨q, hq⟩ : ∃ q, (placeB ds) (st, be, rk, my, gu, lo, hi, hd, ca, ut, wk) = q := ⟨_, rfl⟩
      have Hq := hide hq
      clear hq
      have hba : Below wr.heap.size wr (wr.alloc (.cells #[.int .i64 st, .int .i64 be, .int .i64 rk, .int .i64 my, .int .i64 gu, .int .i64 lo, .int .i64 hi, .int .i64 hd, .int .i64 ca, .int .i64 ut, .int .i64 wk] 41)) := (Below.refl _ _).alloc (Nat.le_refl _) _
      replace BB := hide ((unhide BB).trans (hba.mono (unhide BB).size))
      clear hba
      refine (allInPlace1_any st be rk my gu lo hi hd ca ut wk (((unhide BB).cell (p := ⟨R, 3, none⟩) hR).trans (unhide HC)) (Nat.lt_of_lt_of_le hR (unhide BB).size) ((unhide HD).below (unhide BB))).mono ?_
      rw [unhide Hq]
      rintro e w1 ⟨rfl, hb⟩
      replace BB := hide ((unhide BB).trans (hb.mono (unhide BB).size))
      clear hb
      cases q
      · go_wp2_with fail
        go_ret
        exact ⟨ret_bool (unhide HN (unhide Hq)).symm, unhide BB⟩
      · go_wp2_with fail
        go_roundw
        case rel => exact ⟨k + 1, by omega, by go_num, unhide HU (unhide Hq), unhide BB⟩
        case measure => simp [intOf]; omega
    · obtain rfl : k = ss.length := by omega
      go_wp2_with fail
      go_ret
      exact ⟨ret_bool (unhide Hst).symm, unhide BB⟩
theorem smithsOf_any (a0 a1 a2 a3 a4 : Option Addr) (n0 n1 n2 n3 n4 p0 p1 p2 p3 p4 : Nat) (now : Int) (w : World) : Calls Tryz.prog 60 #[.agg #[.slice a0 n0 p0, .slice a1 n1 p1, .slice a2 n2 p2, .slice a3 n3 p3, .slice a4 n4 p4, .int .i64 now]] w fun e w' => e = .returned (.slice a2 n2 p2) ∧ Below w.heap.size w w' := by
  go_enter Tryz.func60, Tryz.ntmps60
  go_wp2_with fail
  go_ret
  exact ⟨rfl, (Below.refl _ _).alloc (Nat.le_refl _) _⟩
theorem desksOf_any (a0 a1 a2 a3 a4 : Option Addr) (n0 n1 n2 n3 n4 p0 p1 p2 p3 p4 : Nat) (now : Int) (w : World) : Calls Tryz.prog 56 #[.agg #[.slice a0 n0 p0, .slice a1 n1 p1, .slice a2 n2 p2, .slice a3 n3 p3, .slice a4 n4 p4, .int .i64 now]] w fun e w' => e = .returned (.slice a3 n3 p3) ∧ Below w.heap.size w w' := by
  go_enter Tryz.func56, Tryz.ntmps56
  go_wp2_with fail
  go_ret
  exact ⟨rfl, (Below.refl _ _).alloc (Nat.le_refl _) _⟩
set_option maxHeartbeats 2000000 in
theorem smithsOk_any {w : World} {v v1 : Value} {ss : List SmithV} {gs : List GuildV} (h : IsSmiths w v ss) (h1 : IsGuilds w v1 gs) : Calls Tryz.prog 180 #[v, v1] w fun e w' => e = .returned (.bool (smithsIB ss gs.length)) ∧ Below w.heap.size w w' := by
  have Hv := hide h
  obtain ⟨a, cap, rfl, _, _⟩ := IsRec.shape h
  obtain ⟨ga, gc, rfl, _, _⟩ := IsRec.shape h1
  clear h h1
  obtain ⟨q1, hq1⟩ : ∃ q, allTo smithB ss ss.length = q := ⟨_, rfl⟩
  obtain ⟨q2, hq2⟩ : ∃ q, allTo (thereB gs.length) ss ss.length = q := ⟨_, rfl⟩
  have H1 := hide hq1
  have H2 := hide hq2
  by_cases hl : ss.length ≤ 12
  · refine Calls.bool_of (q := (q1 && q2)) ?_ (by unfold smithsIB; rw [hq1, hq2, decide_eq_true hl, Bool.true_and])
    have hl1 : (ss.length : Int) ≤ 12 := by omega
    clear hq1 hq2
    have HW := hide ((unhide Hv).below ((Below.refl _ _).alloc (Nat.le_refl _) (.cells #[.slice ga gs.length gc] 27)))
    go_enter Tryz.func180, Tryz.ntmps180
    go_wp2_with fail
    refine (allOk_any (unhide HW)).mono ?_
    rw [unhide H1]
    rintro e w1 ⟨rfl, hb⟩
    replace HW := hide ((unhide HW).below hb)
    have c0 : w1.cell? ⟨w.heap.size, 0, none⟩ = some (.slice ga gs.length gc) := (hb.cell (p := ⟨w.heap.size, 0, none⟩) (by simp)).trans (cell_new _ rfl)
    have hlt : w.heap.size < w1.heap.size := by have := hb.size; simp at this; omega
    have Hb := hide (((Below.refl w.heap.size w).alloc (Nat.le_refl _) _).trans (hb.mono (by simp)))
    have HC := hide c0
    clear hb c0
    cases q1
    · go_wp2_with fail
      go_ret
      exact ⟨rfl, unhide Hb⟩
    go_wp2_with fail
    refine (allThere_any (unhide HW) (unhide HC) hlt).mono ?_
    rw [unhide H2]
    rintro e w2 ⟨rfl, hb⟩
    replace Hb := hide ((unhide Hb).trans (hb.mono (unhide Hb).size))
    clear hb
    go_wp2_with fail
    go_ret
    exact ⟨ret_bool (by simp), unhide Hb⟩
  · refine Calls.bool_of (q := false) ?_ (by unfold smithsIB; rw [decide_eq_false hl]; rfl)
    have hl1 : ¬ ((ss.length : Int) ≤ 12) := by omega
    clear hq1 hq2
    go_enter Tryz.func180, Tryz.ntmps180
    go_wp2_with fail
    go_ret
    exact ⟨rfl, (Below.refl _ _).alloc (Nat.le_refl _) _⟩
set_option maxHeartbeats 2000000 in
theorem desksOk_any {w : World} {v : Value} {ds : List DeskV} {n : Int} (h : IsDesks w v ds) (hn : n ≤ 1000) : Calls Tryz.prog 181 #[v, .int .i64 n] w fun e w' => e = .returned (.bool (desksIB ds n)) ∧ Below w.heap.size w w' := by
  have Hv := hide h
  obtain ⟨a, cap, rfl, _, _⟩ := IsRec.shape h
  clear h
  obtain ⟨q1, hq1⟩ : ∃ q, allTo deskB ds ds.length = q := ⟨_, rfl⟩
  obtain ⟨ws, hws⟩ : ∃ ws, whereTo openD1 ds ds.length = ws := ⟨_, rfl⟩
  have H1 := hide hq1
  have H2 := hide hws
  by_cases hl : (ds.length : Int) = n
  · refine Calls.bool_of (q := (q1 && decide (0 < ws.length))) ?_ (by unfold desksIB; rw [hq1, show whereTo (fun d : DeskV => d.1) ds ds.length = ws from hws, decide_eq_true hl, Bool.true_and])
    subst hl
    have hl1 : ds.length ≤ 1000 := by omega
    clear hq1 hws
    go_enter Tryz.func181, Tryz.ntmps181
    go_wp2_with fail
    refine (allMark_any (unhide Hv)).mono ?_
    rw [unhide H1]
    rintro e w1 ⟨rfl, hb⟩
    replace Hv := hide ((unhide Hv).below hb)
    have Hb := hide hb
    clear hb
    cases q1
    · go_wp2_with fail
      go_ret
      exact ⟨rfl, unhide Hb⟩
    go_wp2_with fail
    refine (whereOpen_any (unhide Hv) hl1).mono ?_
    rw [unhide H2]
    rintro e w2 ⟨v2, rfl, hn2, hb⟩
    obtain ⟨la, lc, rfl⟩ := RecAt.shape hn2
    replace Hb := hide ((unhide Hb).trans (hb.mono (unhide Hb).size))
    clear hb hn2
    go_wp2_with fail
    go_ret
    exact ⟨ret_bool (by simp), unhide Hb⟩
  · refine Calls.bool_of (q := false) ?_ (by unfold desksIB; rw [decide_eq_false hl]; rfl)
    have hl1 : ((ds.length : Int) == n) = false := by simpa using hl
    clear hq1 hws
    go_enter Tryz.func181, Tryz.ntmps181
    go_wp2_with fail
    go_ret
    exact ⟨rfl, Below.refl _ _⟩
theorem pacesIB_no {ps : List Int} {rs : List RoomV} {k : Nat} (hk : k < ps.length) (h : hasB (roomAt rs k).2.length (recAt ps k) = false) : pacesIB ps rs = false := by
  unfold pacesIB
  rw [all_no (p := fun j => hasB (roomAt rs j).2.length (recAt ps j)) hk h, Bool.and_false]
set_option maxHeartbeats 2000000 in
theorem pacesThere_any {w : World} {v v0 : Value} {ps : List Int} {rs : List RoomV} (h : IsNums w v ps) (h0 : IsRooms w v0 rs) : Calls Tryz.prog 183 #[v, v0] w fun e w' => e = .returned (.bool (pacesIB ps rs)) ∧ Below w.heap.size w w' := by
  obtain ⟨a, cap, rfl, hc, hm, hr⟩ := h
  obtain ⟨a0, cap0, rfl, hc0, hm0, hr0⟩ := h0
  have Hr := hide hr
  have Hr0 := hide hr0
  clear hr hr0
  by_cases hl : ps.length = rs.length
  · have hl1 : (ps.length : Int) = (rs.length : Int) := by omega
    have hbn : ((ps.length : Int) != (rs.length : Int)) = false := by simp [hl]
    have Hall : Hid ((List.range ps.length).all (fun j => hasB (roomAt rs j).2.length (recAt ps j)) = true → pacesIB ps rs = true) := hide (fun e => by unfold pacesIB; rw [e, decide_eq_true hl]; rfl)
    have Hl := hide hl
    clear hl hl1
    go_enter Tryz.func183, Tryz.ntmps183
    go_wp2_with fail
    go_loopw [14] (fun i wr => ∃ k : Nat, k ≤ ps.length ∧ i = .int .i64 k ∧ (List.range k).all (fun j => hasB (roomAt rs j).2.length (recAt ps j)) = true ∧ Below w.heap.size w wr) (fun i _ => ps.length - (intOf i).toNat)
    case atStart => exact ⟨0, Nat.zero_le _, rfl, rfl, Below.refl _ _⟩
    case round =>
      obtain ⟨k, hk, rfl, hst, hb0⟩ := hrel
      have Hst := hide hst
      have BB := hide hb0
      by_cases hlt : k < ps.length
      · have hlt1 : (k : Int) < (ps.length : Int) := by omega
        have hlt2 : (k : Int) < (rs.length : Int) := by have := unhide Hl; omega
        rcases unhide Hr with e0 | ⟨b, off, rfl, hbw, hcl⟩
        · rw [e0] at hlt; simp at hlt
        rcases unhide Hr0 with e0 | ⟨b0, off0, rfl, hbw0, hcl0⟩
        · rw [e0] at hlt2; simp at hlt2; omega
        have d0 := hcl k hlt 0 _ rfl
        simp only [Nat.mul_one, Nat.add_zero] at d0
        rw [← hb0.cell (p := ⟨b, off + k, none⟩) hbw] at d0
        obtain ⟨_, pv, g1, hpv⟩ := hcl0 k (by have := unhide Hl; omega)
        obtain ⟨pa, pc, rfl, _, _, _⟩ := hpv
        rw [← hb0.cell (p := ⟨b0, off0 + k * 2 + 1, none⟩) hbw0] at g1
        have HU := hide (fun (hh : hasB (roomAt rs k).2.length (recAt ps k) = true) => (show (List.range (k + 1)).all (fun j => hasB (roomAt rs j).2.length (recAt ps j)) = true from by rw [all_up, hst, hh]; rfl))
        have HN := hide (fun hh => pacesIB_no (rs := rs) hlt hh)
        clear hcl hcl0 hst hb0
        generalize recAt ps k = x at *
        generalize (roomAt rs k).2.length = n at *
        obtain ⟨q, hq⟩ : ∃ q, hasB n x = q := ⟨_, rfl⟩
        have Hq := hide hq
        clear hq
        go_wp2_with fail
        refine (hasPace_any pa n pc x _).mono ?_
        rw [unhide Hq]
        rintro e w1 ⟨rfl, h9⟩
        subst w1
        cases q
        · go_wp2_with fail
          go_ret
          exact ⟨ret_bool (unhide HN (unhide Hq)).symm, unhide BB⟩
        · go_wp2_with fail
          go_roundw
          case rel => exact ⟨k + 1, by omega, by go_num, unhide HU (unhide Hq), unhide BB⟩
          case measure => simp [intOf]; omega
      · obtain rfl : k = ps.length := by omega
        go_wp2_with fail
        go_ret
        exact ⟨ret_bool (unhide Hall (unhide Hst)).symm, unhide BB⟩
  · refine Calls.bool_of (q := false) ?_ (by unfold pacesIB; rw [decide_eq_false hl]; rfl)
    have hbn : ((ps.length : Int) != (rs.length : Int)) = true := by simp; omega
    go_enter Tryz.func183, Tryz.ntmps183
    go_wp2_with fail
    go_ret
    exact ⟨rfl, Below.refl _ _⟩
theorem Calls.same_below' {P : Program} {f : FuncId} {args : Array Value} {w : World} {v : Value} (h : Calls P f args w fun e w' => e = .returned v ∧ w' = w) : Calls P f args w fun e w' => e = .returned v ∧ Below w.heap.size w w' := h.mono fun e w' ⟨he, hw⟩ => ⟨he, by subst hw; exact Below.refl _ _⟩
theorem Calls.int_of {P : Program} {f : FuncId} {args : Array Value} {w : World} {q q' : Int} (h : Calls P f args w fun e w' => e = .returned (.int .i64 q) ∧ Below w.heap.size w w') (e : q = q') : Calls P f args w fun e w' => e = .returned (.int .i64 q') ∧ Below w.heap.size w w' := by rw [← e]; exact h
set_option maxHeartbeats 8000000 in
theorem partsOk_any {w : World} {v0 v1 v2 v3 v4 : Value} {m : SmyV} (h : Smy w v0 v1 v2 v3 v4 m) : Calls Tryz.prog 126 #[.agg #[v0, v1, v2, v3, v4, .int .i64 m.now]] w fun e w' => e = .returned (.bool (partsIB m)) ∧ Below w.heap.size w w' := by
  have Hv := hide (h.alloc (.cells #[v0, v1, v2, v3, v4, .int .i64 m.now] 32))
  obtain ⟨a0, p0, rfl, _, _⟩ := IsRooms.shape h.rooms
  obtain ⟨a1, p1, rfl, _, _⟩ := IsRec.shape h.guilds
  obtain ⟨a2, p2, rfl, _, _⟩ := IsRec.shape h.smiths
  obtain ⟨a3, p3, rfl, _, _⟩ := IsRec.shape h.desks
  obtain ⟨a4, p4, rfl, _, _⟩ := IsRec.shape h.paces
  clear h
  obtain ⟨q1, hq1⟩ : ∃ q, hallB m.rooms = q := ⟨_, rfl⟩
  obtain ⟨q2, hq2⟩ : ∃ q, guildsB m.guilds = q := ⟨_, rfl⟩
  obtain ⟨q3, hq3⟩ : ∃ q, smithsIB m.smiths m.guilds.length = q := ⟨_, rfl⟩
  obtain ⟨q4, hq4⟩ : ∃ q, desksIB m.desks (benchesV m.rooms) = q := ⟨_, rfl⟩
  obtain ⟨q5, hq5⟩ : ∃ q, pacesIB m.paces m.rooms = q := ⟨_, rfl⟩
  obtain ⟨q6, hq6⟩ : ∃ q, inB m.now 0 1000000 = q := ⟨_, rfl⟩
  refine Calls.bool_of (q := (q1 && (q2 && (q3 && (q4 && (q5 && q6)))))) ?_ (by
    unfold partsIB
    rw [hq2, hq3, hq5, hq6]
    cases q1
    · rw [hq1]; rfl
    · rw [← benchesV_t hq1, hq4, hq1])
  have kb : Hid (Blk (w.alloc (.cells #[.slice a0 m.rooms.length p0, .slice a1 m.guilds.length p1, .slice a2 m.smiths.length p2, .slice a3 m.desks.length p3, .slice a4 m.paces.length p4, .int .i64 m.now] 32)) w.heap.size 32 #[.slice a0 m.rooms.length p0, .slice a1 m.guilds.length p1, .slice a2 m.smiths.length p2, .slice a3 m.desks.length p3, .slice a4 m.paces.length p4, .int .i64 m.now]) := hide (Blk.new w _ _)
  have BB : Hid (Below w.heap.size w (w.alloc (.cells #[.slice a0 m.rooms.length p0, .slice a1 m.guilds.length p1, .slice a2 m.smiths.length p2, .slice a3 m.desks.length p3, .slice a4 m.paces.length p4, .int .i64 m.now] 32))) := hide ((Below.refl _ _).alloc (Nat.le_refl _) _)
  have hbv : benchesV m.rooms ≤ 1000 := by
    cases hb : hallB m.rooms
    · rw [benchesV_f hb]; omega
    · rw [benchesV_t hb]; have := (hallB_of hb).2.2.2; omega
  go_enter Tryz.func126, Tryz.ntmps126
  go_wp2_with fail
  generalize w.alloc (.cells #[.slice a0 m.rooms.length p0, .slice a1 m.guilds.length p1, .slice a2 m.smiths.length p2, .slice a3 m.desks.length p3, .slice a4 m.paces.length p4, .int .i64 m.now] 32) = W at *
  have H1 := hide (fun (X : World) (hX : Below W.heap.size W X) => Calls.bool_of (implHallOk_any ((unhide Hv).below hX).rooms) hq1)
  have H2 := hide (fun (X : World) (hX : Below W.heap.size W X) => Calls.bool_of (implGuildsOk_any ((unhide Hv).below hX).guilds) hq2)
  have H3 := hide (fun (X : World) (hX : Below W.heap.size W X) => Calls.bool_of (smithsOk_any ((unhide Hv).below hX).smiths ((unhide Hv).below hX).guilds) hq3)
  have H4a := hide (fun (X : World) (hX : Below W.heap.size W X) => implBenchesIn_any ((unhide Hv).below hX).rooms)
  have H4 := hide (fun (X : World) (hX : Below W.heap.size W X) => Calls.bool_of (desksOk_any ((unhide Hv).below hX).desks hbv) hq4)
  have H5 := hide (fun (X : World) (hX : Below W.heap.size W X) => Calls.bool_of (pacesThere_any ((unhide Hv).below hX).paces ((unhide Hv).below hX).rooms) hq5)
  have H6 := hide (fun (X : World) (hX : Below W.heap.size W X) => Calls.bool_of (Calls.same_below' (liesFrom_any 0 m.now 1000000 X)) hq6)
  clear hq1 hq2 hq3 hq4 hq5 hq6
  generalize benchesV m.rooms = nb at *
  have c0 := (unhide kb).cell (i := 0) (v := .slice a0 m.rooms.length p0) rfl
  have c1 := (unhide kb).cell (i := 1) (v := .slice a1 m.guilds.length p1) rfl
  have c2 := (unhide kb).cell (i := 2) (v := .slice a2 m.smiths.length p2) rfl
  have c3 := (unhide kb).cell (i := 3) (v := .slice a3 m.desks.length p3) rfl
  have c4 := (unhide kb).cell (i := 4) (v := .slice a4 m.paces.length p4) rfl
  have c5 := (unhide kb).cell (i := 5) (v := .int .i64 m.now) rfl
  have y0 := cell_regrown c0
  have y1 := cell_regrown c1
  have y2 := cell_regrown c2
  have y3 := cell_regrown c3
  have y4 := cell_regrown c4
  have y5 := cell_regrown c5
  cases q1
  · go_wp2_with fail
    refine wp_region_quiet_below (by kernel_rfl) (by kernel_rfl) ?_
    repeat (go_big_quiet_step (first | exact Calls.regrown_of (unhide H1 _ (below_regrown _ _ _)) | exact Calls.regrown_of (unhide H2 _ (below_regrown _ _ _)) | exact Calls.regrown_of (unhide H3 _ (below_regrown _ _ _)) | exact Calls.regrown_of (unhide H4a _ (below_regrown _ _ _)) | exact Calls.regrown_of (unhide H4 _ (below_regrown _ _ _)) | exact Calls.regrown_of (unhide H5 _ (below_regrown _ _ _)) | exact Calls.regrown_of (unhide H6 _ (below_regrown _ _ _))))
    refine wpQuiet_nil ?_
    intro _ hw'
    obtain ⟨⟨dq, osq⟩, hw''⟩ := hw'
    subst hw''
    go_wp2_with fail
    go_ret
    exact ⟨rfl, (unhide BB).trans ((below_regrown _ _ _).mono (unhide BB).size)⟩
  cases q2
  · go_wp2_with fail
    refine wp_region_quiet_below (by kernel_rfl) (by kernel_rfl) ?_
    repeat (go_big_quiet_step (first | exact Calls.regrown_of (unhide H1 _ (below_regrown _ _ _)) | exact Calls.regrown_of (unhide H2 _ (below_regrown _ _ _)) | exact Calls.regrown_of (unhide H3 _ (below_regrown _ _ _)) | exact Calls.regrown_of (unhide H4a _ (below_regrown _ _ _)) | exact Calls.regrown_of (unhide H4 _ (below_regrown _ _ _)) | exact Calls.regrown_of (unhide H5 _ (below_regrown _ _ _)) | exact Calls.regrown_of (unhide H6 _ (below_regrown _ _ _))))
    refine wpQuiet_nil ?_
    intro _ hw'
    obtain ⟨⟨dq, osq⟩, hw''⟩ := hw'
    subst hw''
    go_wp2_with fail
    go_ret
    exact ⟨rfl, (unhide BB).trans ((below_regrown _ _ _).mono (unhide BB).size)⟩
  cases q3
  · go_wp2_with fail
    refine wp_region_quiet_below (by kernel_rfl) (by kernel_rfl) ?_
    repeat (go_big_quiet_step (first | exact Calls.regrown_of (unhide H1 _ (below_regrown _ _ _)) | exact Calls.regrown_of (unhide H2 _ (below_regrown _ _ _)) | exact Calls.regrown_of (unhide H3 _ (below_regrown _ _ _)) | exact Calls.regrown_of (unhide H4a _ (below_regrown _ _ _)) | exact Calls.regrown_of (unhide H4 _ (below_regrown _ _ _)) | exact Calls.regrown_of (unhide H5 _ (below_regrown _ _ _)) | exact Calls.regrown_of (unhide H6 _ (below_regrown _ _ _))))
    refine wpQuiet_nil ?_
    intro _ hw'
    obtain ⟨⟨dq, osq⟩, hw''⟩ := hw'
    subst hw''
    go_wp2_with fail
    go_ret
    exact ⟨rfl, (unhide BB).trans ((below_regrown _ _ _).mono (unhide BB).size)⟩
  cases q4
  · go_wp2_with fail
    refine wp_region_quiet_below (by kernel_rfl) (by kernel_rfl) ?_
    repeat (go_big_quiet_step (first | exact Calls.regrown_of (unhide H1 _ (below_regrown _ _ _)) | exact Calls.regrown_of (unhide H2 _ (below_regrown _ _ _)) | exact Calls.regrown_of (unhide H3 _ (below_regrown _ _ _)) | exact Calls.regrown_of (unhide H4a _ (below_regrown _ _ _)) | exact Calls.regrown_of (unhide H4 _ (below_regrown _ _ _)) | exact Calls.regrown_of (unhide H5 _ (below_regrown _ _ _)) | exact Calls.regrown_of (unhide H6 _ (below_regrown _ _ _))))
    refine wpQuiet_nil ?_
    intro _ hw'
    obtain ⟨⟨dq, osq⟩, hw''⟩ := hw'
    subst hw''
    go_wp2_with fail
    go_ret
    exact ⟨rfl, (unhide BB).trans ((below_regrown _ _ _).mono (unhide BB).size)⟩
  cases q5
  · go_wp2_with fail
    refine wp_region_quiet_below (by kernel_rfl) (by kernel_rfl) ?_
    repeat (go_big_quiet_step (first | exact Calls.regrown_of (unhide H1 _ (below_regrown _ _ _)) | exact Calls.regrown_of (unhide H2 _ (below_regrown _ _ _)) | exact Calls.regrown_of (unhide H3 _ (below_regrown _ _ _)) | exact Calls.regrown_of (unhide H4a _ (below_regrown _ _ _)) | exact Calls.regrown_of (unhide H4 _ (below_regrown _ _ _)) | exact Calls.regrown_of (unhide H5 _ (below_regrown _ _ _)) | exact Calls.regrown_of (unhide H6 _ (below_regrown _ _ _))))
    refine wpQuiet_nil ?_
    intro _ hw'
    obtain ⟨⟨dq, osq⟩, hw''⟩ := hw'
    subst hw''
    go_wp2_with fail
    go_ret
    exact ⟨rfl, (unhide BB).trans ((below_regrown _ _ _).mono (unhide BB).size)⟩
  go_wp2_with fail
  refine wp_region_quiet_below (by kernel_rfl) (by kernel_rfl) ?_
  repeat (go_big_quiet_step (first | exact Calls.regrown_of (unhide H1 _ (below_regrown _ _ _)) | exact Calls.regrown_of (unhide H2 _ (below_regrown _ _ _)) | exact Calls.regrown_of (unhide H3 _ (below_regrown _ _ _)) | exact Calls.regrown_of (unhide H4a _ (below_regrown _ _ _)) | exact Calls.regrown_of (unhide H4 _ (below_regrown _ _ _)) | exact Calls.regrown_of (unhide H5 _ (below_regrown _ _ _)) | exact Calls.regrown_of (unhide H6 _ (below_regrown _ _ _))))
  refine wpQuiet_nil ?_
  intro _ hw'
  obtain ⟨⟨dq, osq⟩, hw''⟩ := hw'
  subst hw''
  go_wp2_with fail
  go_ret
  exact ⟨ret_bool (by simp), (unhide BB).trans ((below_regrown _ _ _).mono (unhide BB).size)⟩
set_option maxHeartbeats 2000000 in
theorem allInPlace_any {w : World} {v0 v1 v2 v3 v4 : Value} {m : SmyV} (h : Smy w v0 v1 v2 v3 v4 m) : Calls Tryz.prog 69 #[.agg #[v0, v1, v2, v3, v4, .int .i64 m.now]] w fun e w' => e = .returned (.bool (inPlaceIB m)) ∧ Below w.heap.size w w' := by
  have Hv := hide (h.alloc (.cells #[v0, v1, v2, v3, v4, .int .i64 m.now] 32))
  obtain ⟨a0, p0, rfl, _, _⟩ := IsRooms.shape h.rooms
  obtain ⟨a1, p1, rfl, _, _⟩ := IsRec.shape h.guilds
  obtain ⟨a2, p2, rfl, _, _⟩ := IsRec.shape h.smiths
  obtain ⟨a3, p3, rfl, _, _⟩ := IsRec.shape h.desks
  obtain ⟨a4, p4, rfl, _, _⟩ := IsRec.shape h.paces
  clear h
  obtain ⟨q1, hq1⟩ : ∃ q, partsIB m = q := ⟨_, rfl⟩
  obtain ⟨q2, hq2⟩ : ∃ q, allTo (placeB m.desks) m.smiths m.smiths.length = q := ⟨_, rfl⟩
  refine Calls.bool_of (q := (q1 && q2)) ?_ (by unfold inPlaceIB; rw [hq1, hq2])
  have H1 := hide hq1
  have H2 := hide hq2
  clear hq1 hq2
  have kb : Hid (Blk (w.alloc (.cells #[.slice a0 m.rooms.length p0, .slice a1 m.guilds.length p1, .slice a2 m.smiths.length p2, .slice a3 m.desks.length p3, .slice a4 m.paces.length p4, .int .i64 m.now] 32)) w.heap.size 32 #[.slice a0 m.rooms.length p0, .slice a1 m.guilds.length p1, .slice a2 m.smiths.length p2, .slice a3 m.desks.length p3, .slice a4 m.paces.length p4, .int .i64 m.now]) := hide (Blk.new w _ _)
  have BB : Hid (Below w.heap.size w (w.alloc (.cells #[.slice a0 m.rooms.length p0, .slice a1 m.guilds.length p1, .slice a2 m.smiths.length p2, .slice a3 m.desks.length p3, .slice a4 m.paces.length p4, .int .i64 m.now] 32))) := hide ((Below.refl _ _).alloc (Nat.le_refl _) _)
  go_enter Tryz.func69, Tryz.ntmps69
  go_wp2_with fail
  generalize w.alloc (.cells #[.slice a0 m.rooms.length p0, .slice a1 m.guilds.length p1, .slice a2 m.smiths.length p2, .slice a3 m.desks.length p3, .slice a4 m.paces.length p4, .int .i64 m.now] 32) = W at *
  refine (partsOk_any (unhide Hv)).mono ?_
  rw [unhide H1]
  rintro e w1 ⟨rfl, hb⟩
  replace Hv := hide ((unhide Hv).below hb)
  replace kb := hide ((unhide kb).below hb (unhide kb).lt)
  replace BB := hide ((unhide BB).trans (hb.mono (unhide BB).size))
  clear hb
  cases q1
  · go_wp2_with fail
    go_ret
    exact ⟨rfl, unhide BB⟩
  have c0 := (unhide kb).cell (i := 0) (v := .slice a0 m.rooms.length p0) rfl
  have c1 := (unhide kb).cell (i := 1) (v := .slice a1 m.guilds.length p1) rfl
  have c2 := (unhide kb).cell (i := 2) (v := .slice a2 m.smiths.length p2) rfl
  have c3 := (unhide kb).cell (i := 3) (v := .slice a3 m.desks.length p3) rfl
  have c4 := (unhide kb).cell (i := 4) (v := .slice a4 m.paces.length p4) rfl
  have c5 := (unhide kb).cell (i := 5) (v := .int .i64 m.now) rfl
  go_wp2_with fail
  refine (smithsOf_any _ _ _ _ _ _ _ _ _ _ _ _ _ _ _ _ _).mono ?_
  rintro e w2 ⟨rfl, hb⟩
  replace Hv := hide ((unhide Hv).below hb)
  replace kb := hide ((unhide kb).below hb (unhide kb).lt)
  replace BB := hide ((unhide BB).trans (hb.mono (unhide BB).size))
  clear hb c0 c1 c2 c3 c4 c5
  go_wp2_with fail
  refine (allPlace_any (unhide Hv).smiths ((unhide kb).cell (i := 3) rfl) (unhide kb).lt (unhide Hv).desks).mono ?_
  rw [unhide H2]
  rintro e w3 ⟨rfl, hb⟩
  replace BB := hide ((unhide BB).trans (hb.mono (unhide BB).size))
  clear hb
  go_wp2_with fail
  go_ret
  exact ⟨ret_bool (by simp), unhide BB⟩
set_option maxHeartbeats 2000000 in
theorem whoIsAt_any {w : World} {v0 v1 v2 v3 v4 : Value} {m : SmyV} (b : Int) (h : Smy w v0 v1 v2 v3 v4 m) (hl : m.smiths.length ≤ 1000) : Calls Tryz.prog 119 #[.agg #[v0, v1, v2, v3, v4, .int .i64 m.now], .int .i64 b] w fun e w' => ∃ v', e = .returned v' ∧ NumsAt w.heap.size w' v' (whereTo (atB b) m.smiths m.smiths.length) ∧ Below w.heap.size w w' := by
  have Hv := hide ((h.alloc (.cells #[v0, v1, v2, v3, v4, .int .i64 m.now] 32)).alloc (.cells #[.int .i64 b] 2))
  obtain ⟨a0, p0, rfl, _, _⟩ := IsRooms.shape h.rooms
  obtain ⟨a1, p1, rfl, _, _⟩ := IsRec.shape h.guilds
  obtain ⟨a2, p2, rfl, _, _⟩ := IsRec.shape h.smiths
  obtain ⟨a3, p3, rfl, _, _⟩ := IsRec.shape h.desks
  obtain ⟨a4, p4, rfl, _, _⟩ := IsRec.shape h.paces
  clear h
  have BB : Hid (Below w.heap.size w ((w.alloc (.cells #[.slice a0 m.rooms.length p0, .slice a1 m.guilds.length p1, .slice a2 m.smiths.length p2, .slice a3 m.desks.length p3, .slice a4 m.paces.length p4, .int .i64 m.now] 32)).alloc (.cells #[.int .i64 b] 2))) := hide (((Below.refl _ _).alloc (Nat.le_refl _) _).alloc (by simp) _)
  have kc : Hid (Blk ((w.alloc (.cells #[.slice a0 m.rooms.length p0, .slice a1 m.guilds.length p1, .slice a2 m.smiths.length p2, .slice a3 m.desks.length p3, .slice a4 m.paces.length p4, .int .i64 m.now] 32)).alloc (.cells #[.int .i64 b] 2)) (w.heap.size + 1) 2 #[.int .i64 b]) := hide (by
    have k := Blk.new (w.alloc (.cells #[.slice a0 m.rooms.length p0, .slice a1 m.guilds.length p1, .slice a2 m.smiths.length p2, .slice a3 m.desks.length p3, .slice a4 m.paces.length p4, .int .i64 m.now] 32)) 2 #[.int .i64 b]
    rw [World.size_alloc] at k
    exact k)
  go_enter Tryz.func119, Tryz.ntmps119
  go_wp2_with fail
  generalize (w.alloc (.cells #[.slice a0 m.rooms.length p0, .slice a1 m.guilds.length p1, .slice a2 m.smiths.length p2, .slice a3 m.desks.length p3, .slice a4 m.paces.length p4, .int .i64 m.now] 32)).alloc (.cells #[.int .i64 b] 2) = W at *
  refine (smithsOf_any _ _ _ _ _ _ _ _ _ _ _ _ _ _ _ _ _).mono ?_
  rintro e w2 ⟨rfl, hb⟩
  replace Hv := hide ((unhide Hv).below hb)
  replace kc := hide ((unhide kc).below hb (unhide kc).lt)
  replace BB := hide ((unhide BB).trans (hb.mono (unhide BB).size))
  clear hb
  go_wp2_with fail
  refine (whereAt_any (unhide Hv).smiths hl ((unhide kc).cell (i := 0) rfl) (unhide kc).lt).mono ?_
  rintro e w3 ⟨v', rfl, hn, hb⟩
  have HN := hide (RecAt.mono hn (unhide BB).size)
  replace BB := hide ((unhide BB).trans (hb.mono (unhide BB).size))
  obtain ⟨la, lc, rfl⟩ := RecAt.shape hn
  clear hb hn
  go_wp2_with fail
  go_ret
  exact ⟨_, rfl, unhide HN, unhide BB⟩
set_option maxHeartbeats 2000000 in
theorem whoWorksAt_any {w : World} {v0 v1 v2 v3 v4 : Value} {m : SmyV} (b : Int) (h : Smy w v0 v1 v2 v3 v4 m) (hl : m.smiths.length ≤ 1000) : Calls Tryz.prog 188 #[.agg #[v0, v1, v2, v3, v4, .int .i64 m.now], .int .i64 b] w fun e w' => ∃ v', e = .returned v' ∧ NumsAt w.heap.size w' v' (whereTo (worksB b) m.smiths m.smiths.length) ∧ Below w.heap.size w w' := by
  have Hv := hide ((h.alloc (.cells #[v0, v1, v2, v3, v4, .int .i64 m.now] 32)).alloc (.cells #[.int .i64 b] 2))
  obtain ⟨a0, p0, rfl, _, _⟩ := IsRooms.shape h.rooms
  obtain ⟨a1, p1, rfl, _, _⟩ := IsRec.shape h.guilds
  obtain ⟨a2, p2, rfl, _, _⟩ := IsRec.shape h.smiths
  obtain ⟨a3, p3, rfl, _, _⟩ := IsRec.shape h.desks
  obtain ⟨a4, p4, rfl, _, _⟩ := IsRec.shape h.paces
  clear h
  have BB : Hid (Below w.heap.size w ((w.alloc (.cells #[.slice a0 m.rooms.length p0, .slice a1 m.guilds.length p1, .slice a2 m.smiths.length p2, .slice a3 m.desks.length p3, .slice a4 m.paces.length p4, .int .i64 m.now] 32)).alloc (.cells #[.int .i64 b] 2))) := hide (((Below.refl _ _).alloc (Nat.le_refl _) _).alloc (by simp) _)
  have kc : Hid (Blk ((w.alloc (.cells #[.slice a0 m.rooms.length p0, .slice a1 m.guilds.length p1, .slice a2 m.smiths.length p2, .slice a3 m.desks.length p3, .slice a4 m.paces.length p4, .int .i64 m.now] 32)).alloc (.cells #[.int .i64 b] 2)) (w.heap.size + 1) 2 #[.int .i64 b]) := hide (by
    have k := Blk.new (w.alloc (.cells #[.slice a0 m.rooms.length p0, .slice a1 m.guilds.length p1, .slice a2 m.smiths.length p2, .slice a3 m.desks.length p3, .slice a4 m.paces.length p4, .int .i64 m.now] 32)) 2 #[.int .i64 b]
    rw [World.size_alloc] at k
    exact k)
  go_enter Tryz.func188, Tryz.ntmps188
  go_wp2_with fail
  generalize (w.alloc (.cells #[.slice a0 m.rooms.length p0, .slice a1 m.guilds.length p1, .slice a2 m.smiths.length p2, .slice a3 m.desks.length p3, .slice a4 m.paces.length p4, .int .i64 m.now] 32)).alloc (.cells #[.int .i64 b] 2) = W at *
  refine (smithsOf_any _ _ _ _ _ _ _ _ _ _ _ _ _ _ _ _ _).mono ?_
  rintro e w2 ⟨rfl, hb⟩
  replace Hv := hide ((unhide Hv).below hb)
  replace kc := hide ((unhide kc).below hb (unhide kc).lt)
  replace BB := hide ((unhide BB).trans (hb.mono (unhide BB).size))
  clear hb
  go_wp2_with fail
  refine (whereWorks_any (unhide Hv).smiths hl ((unhide kc).cell (i := 0) rfl) (unhide kc).lt).mono ?_
  rintro e w3 ⟨v', rfl, hn, hb⟩
  have HN := hide (RecAt.mono hn (unhide BB).size)
  replace BB := hide ((unhide BB).trans (hb.mono (unhide BB).size))
  obtain ⟨la, lc, rfl⟩ := RecAt.shape hn
  clear hb hn
  go_wp2_with fail
  go_ret
  exact ⟨_, rfl, unhide HN, unhide BB⟩
set_option maxHeartbeats 4000000 in
theorem turnOk_any {w : World} {v0 v1 v2 v3 v4 : Value} {m : SmyV} {b : Nat} (h : Smy w v0 v1 v2 v3 v4 m) (hl : m.smiths.length ≤ 1000) (hb0 : b < m.desks.length) : Calls Tryz.prog 130 #[.agg #[v0, v1, v2, v3, v4, .int .i64 m.now], .int .i64 (b : Int)] w fun e w' => e = .returned (.bool (turnIB m b)) ∧ Below w.heap.size w w' := by
  have Hv := hide (h.alloc (.cells #[v0, v1, v2, v3, v4, .int .i64 m.now] 32))
  obtain ⟨a0, p0, rfl, _, _⟩ := IsRooms.shape h.rooms
  obtain ⟨a1, p1, rfl, _, _⟩ := IsRec.shape h.guilds
  obtain ⟨a2, p2, rfl, _, _⟩ := IsRec.shape h.smiths
  obtain ⟨a3, p3, rfl, hc3, hm3, r3⟩ := h.desks
  obtain ⟨a4, p4, rfl, _, _⟩ := IsRec.shape h.paces
  clear h
  rcases r3 with e0 | ⟨db, off, rfl, hbw, hcl⟩
  · rw [e0] at hb0; simp at hb0
  obtain ⟨_, d1, _⟩ := desk_cells hcl hb0
  have hb1 : (b : Int) < (m.desks.length : Int) := by omega
  have hT : turnIB m b = if (recAt m.desks b).2.1 = -1 then decide ((whereTo (atB b) m.smiths m.smiths.length).length = 0) else decide ((whereTo (worksB b) m.smiths m.smiths.length).length = 1) && decide (recAt (whereTo (worksB b) m.smiths m.smiths.length) 0 = (recAt m.desks b).2.1) := rfl
  have HT := hide hT
  clear hT hcl
  generalize (recAt m.desks b).2.1 = who at *
  have hne : db ≠ w.heap.size := Nat.ne_of_lt hbw
  have kb : Hid (Blk (w.alloc (.cells #[.slice a0 m.rooms.length p0, .slice a1 m.guilds.length p1, .slice a2 m.smiths.length p2, .slice (some ⟨db, off, none⟩) m.desks.length p3, .slice a4 m.paces.length p4, .int .i64 m.now] 32)) w.heap.size 32 #[.slice a0 m.rooms.length p0, .slice a1 m.guilds.length p1, .slice a2 m.smiths.length p2, .slice (some ⟨db, off, none⟩) m.desks.length p3, .slice a4 m.paces.length p4, .int .i64 m.now]) := hide (Blk.new w _ _)
  have BB : Hid (Below w.heap.size w (w.alloc (.cells #[.slice a0 m.rooms.length p0, .slice a1 m.guilds.length p1, .slice a2 m.smiths.length p2, .slice (some ⟨db, off, none⟩) m.desks.length p3, .slice a4 m.paces.length p4, .int .i64 m.now] 32))) := hide ((Below.refl _ _).alloc (Nat.le_refl _) _)
  rw [← (unhide BB).cell (p := ⟨db, off + b * 3 + 1, none⟩) hbw] at d1
  by_cases hw : who = -1
  · subst hw
    obtain ⟨ws, hws⟩ : ∃ ws, whereTo (atB b) m.smiths m.smiths.length = ws := ⟨_, rfl⟩
    refine Calls.bool_of (q := decide (ws.length = 0)) ?_ (by rw [unhide HT, if_pos rfl, hws])
    have Hws := hide hws
    clear hws HT
    go_enter Tryz.func130, Tryz.ntmps130
    go_upto_region 3 with fail
    generalize w.alloc (.cells #[.slice a0 m.rooms.length p0, .slice a1 m.guilds.length p1, .slice a2 m.smiths.length p2, .slice (some ⟨db, off, none⟩) m.desks.length p3, .slice a4 m.paces.length p4, .int .i64 m.now] 32) = W at *
    have c0 := (unhide kb).cell (i := 0) (v := .slice a0 m.rooms.length p0) rfl
    have c1 := (unhide kb).cell (i := 1) (v := .slice a1 m.guilds.length p1) rfl
    have c2 := (unhide kb).cell (i := 2) (v := .slice a2 m.smiths.length p2) rfl
    have c3 := (unhide kb).cell (i := 3) (v := .slice (some ⟨db, off, none⟩) m.desks.length p3) rfl
    have c4 := (unhide kb).cell (i := 4) (v := .slice a4 m.paces.length p4) rfl
    have c5 := (unhide kb).cell (i := 5) (v := .int .i64 m.now) rfl
    go_wp2_with fail
    refine (whoIsAt_any (b : Int) (unhide Hv) hl).mono ?_
    rw [unhide Hws]
    rintro e w2 ⟨v', rfl, hn, hb⟩
    obtain ⟨la, lc, rfl⟩ := RecAt.shape hn
    replace BB := hide ((unhide BB).trans (hb.mono (unhide BB).size))
    clear hb hn c0 c1 c2 c3 c4 c5
    go_wp2_with fail
    go_ret
    exact ⟨ret_bool (by rw [Bool.eq_iff_iff]; simp only [beq_iff_eq, decide_eq_true_eq]; omega), unhide BB⟩
  have nw : (who == -1) = false := by simpa using hw
  obtain ⟨ws, hws⟩ : ∃ ws, whereTo (worksB b) m.smiths m.smiths.length = ws := ⟨_, rfl⟩
  refine Calls.bool_of (q := decide (ws.length = 1) && decide (recAt ws 0 = who)) ?_ (by rw [unhide HT, if_neg hw, hws])
  have Hws := hide hws
  clear hws HT
  go_enter Tryz.func130, Tryz.ntmps130
  go_upto_region 3 with fail
  generalize w.alloc (.cells #[.slice a0 m.rooms.length p0, .slice a1 m.guilds.length p1, .slice a2 m.smiths.length p2, .slice (some ⟨db, off, none⟩) m.desks.length p3, .slice a4 m.paces.length p4, .int .i64 m.now] 32) = W at *
  have c0 := (unhide kb).cell (i := 0) (v := .slice a0 m.rooms.length p0) rfl
  have c1 := (unhide kb).cell (i := 1) (v := .slice a1 m.guilds.length p1) rfl
  have c2 := (unhide kb).cell (i := 2) (v := .slice a2 m.smiths.length p2) rfl
  have c3 := (unhide kb).cell (i := 3) (v := .slice (some ⟨db, off, none⟩) m.desks.length p3) rfl
  have c4 := (unhide kb).cell (i := 4) (v := .slice a4 m.paces.length p4) rfl
  have c5 := (unhide kb).cell (i := 5) (v := .int .i64 m.now) rfl
  go_wp2_with fail
  refine (whoWorksAt_any (b : Int) (unhide Hv) hl).mono ?_
  rw [unhide Hws]
  rintro e w2 ⟨v', rfl, hn, hb⟩
  obtain ⟨la, lc, rfl⟩ := RecAt.shape hn
  replace BB := hide ((unhide BB).trans (hb.mono (unhide BB).size))
  have HN := hide hn
  clear hb hn c0 c1 c2 c3 c4 c5
  by_cases h1 : ws.length = 1
  · obtain ⟨g, hga, _, _, hcl, _⟩ := RecAt.view encNum_len (by omega) (unhide HN) rfl (by omega)
    cases hga
    have z0 := hcl 0 (by omega) 0 _ rfl
    simp only [Nat.zero_mul, Nat.add_zero] at z0
    have hl1 : ((ws.length : Int) == 1) = true := by simp; omega
    clear hcl
    have h01 : (0 : Int) < (ws.length : Int) := by omega
    obtain ⟨z, hz⟩ : ∃ z, recAt ws 0 = z := ⟨_, rfl⟩
    rw [hz] at z0
    have Hz := hide hz
    clear hz
    go_wp2_with fail
    go_ret
    exact ⟨ret_bool (by rw [unhide Hz, decide_eq_true h1, Bool.eq_iff_iff]; simp only [Bool.true_and, beq_iff_eq, decide_eq_true_eq]), unhide BB⟩
  · have hl1 : ((ws.length : Int) == 1) = false := by simp; omega
    go_wp2_with fail
    go_ret
    exact ⟨ret_bool (by rw [decide_eq_false h1]; rfl), unhide BB⟩
set_option maxHeartbeats 4000000 in
theorem turnsOk_any {w : World} {v0 v1 v2 v3 v4 : Value} {m : SmyV} (h : Smy w v0 v1 v2 v3 v4 m) (hl : m.smiths.length ≤ 1000) : Calls Tryz.prog 70 #[.agg #[v0, v1, v2, v3, v4, .int .i64 m.now]] w fun e w' => e = .returned (.bool (turnsIB m)) ∧ Below w.heap.size w w' := by
  have Hv := hide (h.alloc (.cells #[v0, v1, v2, v3, v4, .int .i64 m.now] 32))
  obtain ⟨a0, p0, rfl, _, _⟩ := IsRooms.shape h.rooms
  obtain ⟨a1, p1, rfl, _, _⟩ := IsRec.shape h.guilds
  obtain ⟨a2, p2, rfl, _, _⟩ := IsRec.shape h.smiths
  obtain ⟨a3, p3, rfl, _, _⟩ := IsRec.shape h.desks
  obtain ⟨a4, p4, rfl, _, _⟩ := IsRec.shape h.paces
  clear h
  have kb0 : Hid (Blk (w.alloc (.cells #[.slice a0 m.rooms.length p0, .slice a1 m.guilds.length p1, .slice a2 m.smiths.length p2, .slice a3 m.desks.length p3, .slice a4 m.paces.length p4, .int .i64 m.now] 32)) w.heap.size 32 #[.slice a0 m.rooms.length p0, .slice a1 m.guilds.length p1, .slice a2 m.smiths.length p2, .slice a3 m.desks.length p3, .slice a4 m.paces.length p4, .int .i64 m.now]) := hide (Blk.new w _ _)
  have BB0 : Hid (Below w.heap.size w (w.alloc (.cells #[.slice a0 m.rooms.length p0, .slice a1 m.guilds.length p1, .slice a2 m.smiths.length p2, .slice a3 m.desks.length p3, .slice a4 m.paces.length p4, .int .i64 m.now] 32))) := hide ((Below.refl _ _).alloc (Nat.le_refl _) _)
  go_enter Tryz.func70, Tryz.ntmps70
  go_wp2_with fail
  go_loopw [7] (fun i wr => ∃ k : Nat, k ≤ m.desks.length ∧ i = .int .i64 k ∧ (List.range k).all (turnIB m) = true ∧ Smy wr (.slice a0 m.rooms.length p0) (.slice a1 m.guilds.length p1) (.slice a2 m.smiths.length p2) (.slice a3 m.desks.length p3) (.slice a4 m.paces.length p4) m ∧ Blk wr w.heap.size 32 #[.slice a0 m.rooms.length p0, .slice a1 m.guilds.length p1, .slice a2 m.smiths.length p2, .slice a3 m.desks.length p3, .slice a4 m.paces.length p4, .int .i64 m.now] ∧ Below w.heap.size w wr) (fun i _ => m.desks.length - (intOf i).toNat)
  case atStart => exact ⟨0, Nat.zero_le _, rfl, rfl, unhide Hv, unhide kb0, unhide BB0⟩
  case round =>
    obtain ⟨k, hk, rfl, hst, hv, hkb, hb0⟩ := hrel
    have Hst := hide hst
    have Hv1 := hide hv
    have kb := hide hkb
    have BB := hide hb0
    clear hv hkb hb0 kb0 BB0 Hv
    by_cases hlt : k < m.desks.length
    · have hlt1 : (k : Int) < (m.desks.length : Int) := by omega
      have HU := hide (fun (hh : turnIB m k = true) => (show (List.range (k + 1)).all (turnIB m) = true from by rw [all_up, hst, hh]; rfl))
      have HN := hide (fun hh => (show turnsIB m = false from all_no (p := turnIB m) hlt hh))
      clear hst
      obtain ⟨q, hq⟩ : ∃ q, turnIB m k = q := ⟨_, rfl⟩
      have Hq := hide hq
      clear hq
      have c0 := (unhide kb).cell (i := 0) (v := .slice a0 m.rooms.length p0) rfl
      have c1 := (unhide kb).cell (i := 1) (v := .slice a1 m.guilds.length p1) rfl
      have c2 := (unhide kb).cell (i := 2) (v := .slice a2 m.smiths.length p2) rfl
      have c3 := (unhide kb).cell (i := 3) (v := .slice a3 m.desks.length p3) rfl
      have c4 := (unhide kb).cell (i := 4) (v := .slice a4 m.paces.length p4) rfl
      have c5 := (unhide kb).cell (i := 5) (v := .int .i64 m.now) rfl
      go_wp2_with fail
      refine (turnOk_any (unhide Hv1) hl hlt).mono ?_
      rw [unhide Hq]
      rintro e w1 ⟨rfl, hb⟩
      replace Hv1 := hide ((unhide Hv1).below hb)
      replace kb := hide ((unhide kb).below hb (unhide kb).lt)
      replace BB := hide ((unhide BB).trans (hb.mono (unhide BB).size))
      clear hb c0 c1 c2 c3 c4 c5
      cases q
      · go_wp2_with fail
        go_ret
        exact ⟨ret_bool (unhide HN (unhide Hq)).symm, unhide BB⟩
      · go_wp2_with fail
        go_roundw
        case rel => exact ⟨k + 1, by omega, by go_num, unhide HU (unhide Hq), unhide Hv1, unhide kb, unhide BB⟩
        case measure => simp [intOf]; omega
    · obtain rfl : k = m.desks.length := by omega
      go_wp2_with fail
      go_ret
      exact ⟨ret_bool (unhide Hst).symm, unhide BB⟩
theorem parts_few {m : SmyV} (h : inPlaceIB m = true) : m.smiths.length ≤ 12 := by
  rw [loose_same] at h
  unfold looseB headB at h
  simp only [Bool.and_eq_true, decide_eq_true_eq] at h
  exact h.1.2.2.1
set_option maxHeartbeats 2000000 in
theorem implSmithyOk_any {w : World} {v0 v1 v2 v3 v4 : Value} {m : SmyV} (h : Smy w v0 v1 v2 v3 v4 m) : Calls Tryz.prog 20 #[.agg #[v0, v1, v2, v3, v4, .int .i64 m.now]] w fun e w' => e = .returned (.bool (smyB m)) ∧ Below w.heap.size w w' := by
  have Hv := hide (h.alloc (.cells #[v0, v1, v2, v3, v4, .int .i64 m.now] 32))
  obtain ⟨a0, p0, rfl, _, _⟩ := IsRooms.shape h.rooms
  obtain ⟨a1, p1, rfl, _, _⟩ := IsRec.shape h.guilds
  obtain ⟨a2, p2, rfl, _, _⟩ := IsRec.shape h.smiths
  obtain ⟨a3, p3, rfl, _, _⟩ := IsRec.shape h.desks
  obtain ⟨a4, p4, rfl, _, _⟩ := IsRec.shape h.paces
  clear h
  obtain ⟨q1, hq1⟩ : ∃ q, inPlaceIB m = q := ⟨_, rfl⟩
  obtain ⟨q2, hq2⟩ : ∃ q, turnsIB m = q := ⟨_, rfl⟩
  refine Calls.bool_of (q := (q1 && q2)) ?_ (by rw [← smy_same]; unfold smyIB; rw [hq1, hq2])
  have H1 := hide hq1
  have H2 := hide hq2
  clear hq1 hq2
  have kb : Hid (Blk (w.alloc (.cells #[.slice a0 m.rooms.length p0, .slice a1 m.guilds.length p1, .slice a2 m.smiths.length p2, .slice a3 m.desks.length p3, .slice a4 m.paces.length p4, .int .i64 m.now] 32)) w.heap.size 32 #[.slice a0 m.rooms.length p0, .slice a1 m.guilds.length p1, .slice a2 m.smiths.length p2, .slice a3 m.desks.length p3, .slice a4 m.paces.length p4, .int .i64 m.now]) := hide (Blk.new w _ _)
  have BB : Hid (Below w.heap.size w (w.alloc (.cells #[.slice a0 m.rooms.length p0, .slice a1 m.guilds.length p1, .slice a2 m.smiths.length p2, .slice a3 m.desks.length p3, .slice a4 m.paces.length p4, .int .i64 m.now] 32))) := hide ((Below.refl _ _).alloc (Nat.le_refl _) _)
  go_enter Tryz.func20, Tryz.ntmps20
  go_wp2_with fail
  generalize w.alloc (.cells #[.slice a0 m.rooms.length p0, .slice a1 m.guilds.length p1, .slice a2 m.smiths.length p2, .slice a3 m.desks.length p3, .slice a4 m.paces.length p4, .int .i64 m.now] 32) = W at *
  refine (allInPlace_any (unhide Hv)).mono ?_
  rw [unhide H1]
  rintro e w1 ⟨rfl, hb⟩
  replace Hv := hide ((unhide Hv).below hb)
  replace kb := hide ((unhide kb).below hb (unhide kb).lt)
  replace BB := hide ((unhide BB).trans (hb.mono (unhide BB).size))
  clear hb
  cases q1
  · go_wp2_with fail
    go_ret
    exact ⟨rfl, unhide BB⟩
  have c0 := (unhide kb).cell (i := 0) (v := .slice a0 m.rooms.length p0) rfl
  have c1 := (unhide kb).cell (i := 1) (v := .slice a1 m.guilds.length p1) rfl
  have c2 := (unhide kb).cell (i := 2) (v := .slice a2 m.smiths.length p2) rfl
  have c3 := (unhide kb).cell (i := 3) (v := .slice a3 m.desks.length p3) rfl
  have c4 := (unhide kb).cell (i := 4) (v := .slice a4 m.paces.length p4) rfl
  have c5 := (unhide kb).cell (i := 5) (v := .int .i64 m.now) rfl
  go_wp2_with fail
  refine (turnsOk_any (unhide Hv) (by have := parts_few (unhide H1); omega)).mono ?_
  rw [unhide H2]
  rintro e w2 ⟨rfl, hb⟩
  replace BB := hide ((unhide BB).trans (hb.mono (unhide BB).size))
  clear hb c0 c1 c2 c3 c4 c5
  go_wp2_with fail
  go_ret
  exact ⟨ret_bool (by simp), unhide BB⟩
theorem implSmithyOk_q (w : World) (v0 v1 v2 v3 v4 : Value) (m : SmyV) (q : Bool) (hq : smyB m = q) (h : Smy w v0 v1 v2 v3 v4 m) : Calls Tryz.prog 20 #[.agg #[v0, v1, v2, v3, v4, .int .i64 m.now]] w fun e w' => e = .returned (.bool q) ∧ Below w.heap.size w w' := Calls.bool_of (implSmithyOk_any h) hq

end Go.Proofs.YtaegckehjlkaaaaGreat

/- A smithy that a call holds in a box of its own: what is known of it, said once. Condition: the smithy can be read. -/
namespace Go.Proofs.YtaegckehjlkaaaaGreat
open Go.ChangeShapes Go.WideShapes Go.ChangeAt Go.RowKit Go.Sort
set_option linter.unusedVariables false

/-- The box R holds the smithy's five slices and its clock, they read as m, and nothing that was there ahead of the call has changed. -/
structure Bx (w W : World) (R : Nat) (a0 : Option Addr) (p0 : Nat) (a1 : Option Addr) (p1 : Nat) (a2 : Option Addr) (p2 : Nat) (a3 : Option Addr) (p3 : Nat) (a4 : Option Addr) (p4 : Nat) (m : SmyV) : Prop where
  smy : Smy W (.slice a0 m.rooms.length p0) (.slice a1 m.guilds.length p1) (.slice a2 m.smiths.length p2) (.slice a3 m.desks.length p3) (.slice a4 m.paces.length p4) m
  blk : Blk W R 32 #[.slice a0 m.rooms.length p0, .slice a1 m.guilds.length p1, .slice a2 m.smiths.length p2, .slice a3 m.desks.length p3, .slice a4 m.paces.length p4, .int .i64 m.now]
  bb : Below w.heap.size w W
section
variable {w W X : World} {R : Nat} {a0 a1 a2 a3 a4 : Option Addr} {p0 p1 p2 p3 p4 : Nat} {m : SmyV}
theorem Bx.next (h : Bx w W R a0 p0 a1 p1 a2 p2 a3 p3 a4 p4 m) (hb : Below W.heap.size W X) : Bx w X R a0 p0 a1 p1 a2 p2 a3 p3 a4 p4 m := ⟨h.smy.below hb, h.blk.below hb h.blk.lt, h.bb.trans (hb.mono h.bb.size)⟩
theorem Bx.alloc (h : Bx w W R a0 p0 a1 p1 a2 p2 a3 p3 a4 p4 m) (o : Obj) : Bx w (W.alloc o) R a0 p0 a1 p1 a2 p2 a3 p3 a4 p4 m := h.next ((Below.refl _ _).alloc (Nat.le_refl _) _)
theorem Bx.drew (h : Bx w W R a0 p0 a1 p1 a2 p2 a3 p3 a4 p4 m) : Bx w W.drew R a0 p0 a1 p1 a2 p2 a3 p3 a4 p4 m := h.next (Below.refl _ _).drew
theorem Bx.cells (h : Bx w W R a0 p0 a1 p1 a2 p2 a3 p3 a4 p4 m) : W.cell? ⟨R, 0, none⟩ = some (.slice a0 m.rooms.length p0) ∧ W.cell? ⟨R, 1, none⟩ = some (.slice a1 m.guilds.length p1) ∧ W.cell? ⟨R, 2, none⟩ = some (.slice a2 m.smiths.length p2) ∧ W.cell? ⟨R, 3, none⟩ = some (.slice a3 m.desks.length p3) ∧ W.cell? ⟨R, 4, none⟩ = some (.slice a4 m.paces.length p4) ∧ W.cell? ⟨R, 5, none⟩ = some (.int .i64 m.now) := h.blk.c6
end
theorem Bx.new {w : World} {v0 v1 v2 v3 v4 : Value} {m : SmyV} (h : Smy w v0 v1 v2 v3 v4 m) : ∃ a0 p0 a1 p1 a2 p2 a3 p3 a4 p4, v0 = .slice a0 m.rooms.length p0 ∧ v1 = .slice a1 m.guilds.length p1 ∧ v2 = .slice a2 m.smiths.length p2 ∧ v3 = .slice a3 m.desks.length p3 ∧ v4 = .slice a4 m.paces.length p4 ∧ Bx w (w.alloc (.cells #[.slice a0 m.rooms.length p0, .slice a1 m.guilds.length p1, .slice a2 m.smiths.length p2, .slice a3 m.desks.length p3, .slice a4 m.paces.length p4, .int .i64 m.now] 32)) w.heap.size a0 p0 a1 p1 a2 p2 a3 p3 a4 p4 m := by
  obtain ⟨a0, p0, a1, p1, a2, p2, a3, p3, a4, p4, rfl, rfl, rfl, rfl, rfl, _⟩ := h.five
  exact ⟨a0, p0, a1, p1, a2, p2, a3, p3, a4, p4, rfl, rfl, rfl, rfl, rfl, h.alloc _, Blk.new _ _ _, (Below.refl _ _).alloc (Nat.le_refl _) _⟩
end Go.Proofs.YtaegckehjlkaaaaGreat

/- Contracts of the program's queueAt, At, wantOf, WantOf, UsedAt: each answers what the lists say. Conditions: the smithy can be read; what each theorem names. -/
namespace Go.Proofs.YtaegckehjlkaaaaGreat
open Go.ChangeShapes Go.WideShapes Go.ChangeAt Go.RowKit Go.Sort
set_option linter.unusedVariables false
set_option maxRecDepth 100000

theorem where_at {m : SmyV} {b : Int} {k : Nat} (hk : k < (whereTo (atB b) m.smiths m.smiths.length).length) : ∃ i : Nat, i < m.smiths.length ∧ recAt (whereTo (atB b) m.smiths m.smiths.length) k = (i : Int) := by
  obtain ⟨i, hi, e, _⟩ := (whereTo_mem (atB b) m.smiths _ m.smiths.length).1 (recAt_mem hk)
  exact ⟨i, hi, e⟩
set_option maxHeartbeats 4000000 in
theorem wantOf_w {w : World} {v0 v1 v2 v3 v4 : Value} {m : SmyV} {k : Nat} (h : Smy w v0 v1 v2 v3 v4 m) (hL : Wants m) (hk : k < m.smiths.length) (hs : (recAt m.smiths k).1 ≠ 0) : Calls Tryz.prog 63 #[.agg #[v0, v1, v2, v3, v4, .int .i64 m.now], .int .i64 (k : Int)] w fun e w' => e = .returned (.int .i64 (wantV m (k : Int))) ∧ Below w.heap.size w w' := by
  have hw : wantV m (k : Int) = wantS m.guilds (recAt m.smiths k) := rfl
  rw [hw]
  clear hw
  have Hg0 := hide h.guilds
  obtain ⟨a0, p0, rfl, _, _⟩ := IsRooms.shape h.rooms
  obtain ⟨a1, p1, rfl, _, _⟩ := IsRec.shape h.guilds
  obtain ⟨a2, p2, rfl, hc2, hm2, r2⟩ := h.smiths
  obtain ⟨a3, p3, rfl, _, _⟩ := IsRec.shape h.desks
  obtain ⟨a4, p4, rfl, _, _⟩ := IsRec.shape h.paces
  clear h
  obtain ⟨hg1, hpair⟩ := hL.each k hk hs
  rcases r2 with e0 | ⟨sb, off, rfl, hbw, hcl⟩
  · rw [e0] at hk; simp at hk
  have hk1 : (k : Int) < (m.smiths.length : Int) := by omega
  obtain ⟨d0, d1, d2, d3, d4, d5, d6, d7, d8, d9, d10⟩ := smith_cells hcl hk
  clear hcl hs hL
  generalize recAt m.smiths k = ss at *
  obtain ⟨st, be, rk, my, gu, lo, hi, hd, ca, ut, wk⟩ := ss
  simp only at d0 d1 d2 d3 d4 d5 d6 d7 d8 d9 d10 hg1 hpair
  obtain ⟨nr, hnr⟩ : ∃ nr, narV (bnd m.guilds gu) lo hi = nr := ⟨_, rfl⟩
  have HW : Hid (withinV m.guilds gu lo hi = nr) := hide (by rw [← hnr]; exact withinV_t hg1 hpair)
  have HX : Hid (wantS m.guilds (st, be, rk, my, gu, lo, hi, hd, ca, ut, wk) = min (max ut nr.1) nr.2) := hide (by rw [← hnr]; rfl)
  rw [unhide HX]
  clear hpair hg1 HX hnr
  obtain ⟨nl, nh⟩ := nr
  dsimp only
  have hne : sb ≠ w.heap.size := Nat.ne_of_lt hbw
  have hbw2 : sb < w.heap.size + 1 := by omega
  have BB : Hid (Below w.heap.size w ((w.alloc (.cells #[.slice a0 m.rooms.length p0, .slice a1 m.guilds.length p1, .slice (some ⟨sb, off, none⟩) m.smiths.length p2, .slice a3 m.desks.length p3, .slice a4 m.paces.length p4, .int .i64 m.now] 32)).alloc (.cells #[.int .i64 st, .int .i64 be, .int .i64 rk, .int .i64 my, .int .i64 gu, .int .i64 lo, .int .i64 hi, .int .i64 hd, .int .i64 ca, .int .i64 ut, .int .i64 wk] 41))) := hide (((Below.refl _ _).alloc (Nat.le_refl _) _).alloc (by simp) _)
  have ks : Hid (Blk ((w.alloc (.cells #[.slice a0 m.rooms.length p0, .slice a1 m.guilds.length p1, .slice (some ⟨sb, off, none⟩) m.smiths.length p2, .slice a3 m.desks.length p3, .slice a4 m.paces.length p4, .int .i64 m.now] 32)).alloc (.cells #[.int .i64 st, .int .i64 be, .int .i64 rk, .int .i64 my, .int .i64 gu, .int .i64 lo, .int .i64 hi, .int .i64 hd, .int .i64 ca, .int .i64 ut, .int .i64 wk] 41)) (w.heap.size + 1) 41 #[.int .i64 st, .int .i64 be, .int .i64 rk, .int .i64 my, .int .i64 gu, .int .i64 lo, .int .i64 hi, .int .i64 hd, .int .i64 ca, .int .i64 ut, .int .i64 wk]) := hide (by
    have k9 := Blk.new (w.alloc (.cells #[.slice a0 m.rooms.length p0, .slice a1 m.guilds.length p1, .slice (some ⟨sb, off, none⟩) m.smiths.length p2, .slice a3 m.desks.length p3, .slice a4 m.paces.length p4, .int .i64 m.now] 32)) 41 #[.int .i64 st, .int .i64 be, .int .i64 rk, .int .i64 my, .int .i64 gu, .int .i64 lo, .int .i64 hi, .int .i64 hd, .int .i64 ca, .int .i64 ut, .int .i64 wk]
    rw [World.size_alloc] at k9
    exact k9)
  have kb : Hid (Blk ((w.alloc (.cells #[.slice a0 m.rooms.length p0, .slice a1 m.guilds.length p1, .slice (some ⟨sb, off, none⟩) m.smiths.length p2, .slice a3 m.desks.length p3, .slice a4 m.paces.length p4, .int .i64 m.now] 32)).alloc (.cells #[.int .i64 st, .int .i64 be, .int .i64 rk, .int .i64 my, .int .i64 gu, .int .i64 lo, .int .i64 hi, .int .i64 hd, .int .i64 ca, .int .i64 ut, .int .i64 wk] 41)) w.heap.size 32 #[.slice a0 m.rooms.length p0, .slice a1 m.guilds.length p1, .slice (some ⟨sb, off, none⟩) m.smiths.length p2, .slice a3 m.desks.length p3, .slice a4 m.paces.length p4, .int .i64 m.now]) := hide ((Blk.new w _ _).alloc _)
  have Hg2 := hide ((unhide Hg0).below (unhide BB))
  go_enter Tryz.func63, Tryz.ntmps63
  go_upto_region 2 with fail
  generalize (w.alloc (.cells #[.slice a0 m.rooms.length p0, .slice a1 m.guilds.length p1, .slice (some ⟨sb, off, none⟩) m.smiths.length p2, .slice a3 m.desks.length p3, .slice a4 m.paces.length p4, .int .i64 m.now] 32)).alloc (.cells #[.int .i64 st, .int .i64 be, .int .i64 rk, .int .i64 my, .int .i64 gu, .int .i64 lo, .int .i64 hi, .int .i64 hd, .int .i64 ca, .int .i64 ut, .int .i64 wk] 41) = W at *
  clear d0 d1 d2 d3 d4 d5 d6 d7 d8 d9 d10
  have c1 := (unhide kb).cell (i := 1) (v := .slice a1 m.guilds.length p1) rfl
  have s4 := (unhide ks).cell (i := 4) (v := .int .i64 gu) rfl
  have s5 := (unhide ks).cell (i := 5) (v := .int .i64 lo) rfl
  have s6 := (unhide ks).cell (i := 6) (v := .int .i64 hi) rfl
  go_wp2_with fail
  refine (implWithin_any gu lo hi (unhide Hg2)).mono ?_
  rw [unhide HW]
  rintro e w1 ⟨rfl, hb⟩
  replace ks := hide ((unhide ks).below hb (unhide ks).lt)
  replace BB := hide ((unhide BB).trans (hb.mono (unhide BB).size))
  clear hb c1 s4 s5 s6 HW
  have s9 := (unhide ks).cell (i := 9) (v := .int .i64 ut) rfl
  go_wp2_with (go_at_call 122; refine (implClamped_any _ _ _ _).mono ?_; rintro e w' ⟨rfl, h9⟩; subst w')
  go_ret
  exact ⟨rfl, unhide BB⟩
theorem wantOf_any {w : World} {v0 v1 v2 v3 v4 : Value} {m : SmyV} {k : Nat} (h : Smy w v0 v1 v2 v3 v4 m) (hL : Loose m) (hk : k < m.smiths.length) (hs : (recAt m.smiths k).1 ≠ 0) : Calls Tryz.prog 63 #[.agg #[v0, v1, v2, v3, v4, .int .i64 m.now], .int .i64 (k : Int)] w fun e w' => e = .returned (.int .i64 (wantV m (k : Int))) ∧ Below w.heap.size w w' := wantOf_w h hL.wants hk hs
theorem whoB_has {m : SmyV} (who : Int) : whoB m who = (hasB m.smiths.length who && !((recAt m.smiths who.toNat).1 == 0)) := by unfold whoB; rw [has_in]
set_option maxHeartbeats 4000000 in
theorem implWantOf_any {w : World} {v0 v1 v2 v3 v4 : Value} {m : SmyV} {who q : Int} (hq : wantOfV m who = q) (h : Smy w v0 v1 v2 v3 v4 m) : Calls Tryz.prog 15 #[.agg #[v0, v1, v2, v3, v4, .int .i64 m.now], .int .i64 who] w fun e w' => e = .returned (.int .i64 q) ∧ Below w.heap.size w w' := by
  have Hq := hide hq
  clear hq
  have Hv := hide (h.alloc (.cells #[v0, v1, v2, v3, v4, .int .i64 m.now] 32))
  obtain ⟨a0, p0, rfl, _, _⟩ := IsRooms.shape h.rooms
  obtain ⟨a1, p1, rfl, _, _⟩ := IsRec.shape h.guilds
  obtain ⟨a2, p2, rfl, _, _⟩ := IsRec.shape h.smiths
  obtain ⟨a3, p3, rfl, _, _⟩ := IsRec.shape h.desks
  obtain ⟨a4, p4, rfl, _, _⟩ := IsRec.shape h.paces
  clear h
  have kb : Hid (Blk (w.alloc (.cells #[.slice a0 m.rooms.length p0, .slice a1 m.guilds.length p1, .slice a2 m.smiths.length p2, .slice a3 m.desks.length p3, .slice a4 m.paces.length p4, .int .i64 m.now] 32)) w.heap.size 32 #[.slice a0 m.rooms.length p0, .slice a1 m.guilds.length p1, .slice a2 m.smiths.length p2, .slice a3 m.desks.length p3, .slice a4 m.paces.length p4, .int .i64 m.now]) := hide (Blk.new w _ _)
  have BB : Hid (Below w.heap.size w (w.alloc (.cells #[.slice a0 m.rooms.length p0, .slice a1 m.guilds.length p1, .slice a2 m.smiths.length p2, .slice a3 m.desks.length p3, .slice a4 m.paces.length p4, .int .i64 m.now] 32))) := hide ((Below.refl _ _).alloc (Nat.le_refl _) _)
  obtain ⟨ok, hok⟩ : ∃ q, smyB m = q := ⟨_, rfl⟩
  have Hok := hide hok
  clear hok
  go_enter Tryz.func15, Tryz.ntmps15
  go_wp2_with fail
  generalize w.alloc (.cells #[.slice a0 m.rooms.length p0, .slice a1 m.guilds.length p1, .slice a2 m.smiths.length p2, .slice a3 m.desks.length p3, .slice a4 m.paces.length p4, .int .i64 m.now] 32) = W at *
  refine (implSmithyOk_q _ _ _ _ _ _ _ _ (unhide Hok) (unhide Hv)).mono ?_
  rintro e w1 ⟨rfl, hb⟩
  replace Hv := hide ((unhide Hv).below hb)
  replace kb := hide ((unhide kb).below hb (unhide kb).lt)
  replace BB := hide ((unhide BB).trans (hb.mono (unhide BB).size))
  clear hb
  cases ok
  · obtain rfl : q = -1 := by rw [← unhide Hq]; unfold wantOfV; rw [unhide Hok]; rfl
    go_wp2_with fail
    go_ret
    exact ⟨rfl, unhide BB⟩
  have c0 := (unhide kb).cell (i := 0) (v := .slice a0 m.rooms.length p0) rfl
  have c1 := (unhide kb).cell (i := 1) (v := .slice a1 m.guilds.length p1) rfl
  have c2 := (unhide kb).cell (i := 2) (v := .slice a2 m.smiths.length p2) rfl
  have c3 := (unhide kb).cell (i := 3) (v := .slice a3 m.desks.length p3) rfl
  have c4 := (unhide kb).cell (i := 4) (v := .slice a4 m.paces.length p4) rfl
  have c5 := (unhide kb).cell (i := 5) (v := .int .i64 m.now) rfl
  go_wp2_with fail
  refine (smithsOf_any _ _ _ _ _ _ _ _ _ _ _ _ _ _ _ _ _).mono ?_
  rintro e w2 ⟨rfl, hb⟩
  replace Hv := hide ((unhide Hv).below hb)
  replace kb := hide ((unhide kb).below hb (unhide kb).lt)
  replace BB := hide ((unhide BB).trans (hb.mono (unhide BB).size))
  clear hb c0 c1 c2 c3 c4 c5
  obtain ⟨qh, hqh⟩ : ∃ q, hasB m.smiths.length who = q := ⟨_, rfl⟩
  have Hh := hide hqh
  clear hqh
  go_wp2_with fail
  refine (hasSmith_any _ _ _ who _).mono ?_
  rw [unhide Hh]
  rintro e w3 ⟨rfl, h9⟩
  subst w3
  cases qh
  · obtain rfl : q = -1 := by rw [← unhide Hq]; unfold wantOfV; rw [whoB_has, unhide Hh]; simp
    go_wp2_with fail
    go_ret
    exact ⟨rfl, unhide BB⟩
  have hwb : 0 ≤ who ∧ who < (m.smiths.length : Int) := by have := unhide Hh; unfold hasB at this; simpa using this
  obtain ⟨k, rfl⟩ : ∃ k : Nat, who = k := ⟨who.toNat, by omega⟩
  have hk : k < m.smiths.length := by omega
  have hk1 : (k : Int) < (m.smiths.length : Int) := by omega
  obtain ⟨_, _, hse, _, _, r2⟩ := (unhide Hv).smiths
  cases hse
  rcases r2 with e0 | ⟨sb, off, rfl, hbw, hcl⟩
  · rw [e0] at hk; simp at hk
  obtain ⟨d0, d1, d2, d3, d4, d5, d6, d7, d8, d9, d10⟩ := smith_cells hcl hk
  have c2 := (unhide kb).cell (i := 2) (v := .slice (some ⟨sb, off, none⟩) m.smiths.length p2) rfl
  have HS : Hid (((recAt m.smiths k).1 ≠ 0 → q = wantV m (k : Int)) ∧ ((recAt m.smiths k).1 = 0 → q = -1)) := hide ⟨fun hne => by
      rw [← unhide Hq]; unfold wantOfV; rw [unhide Hok, whoB_has, unhide Hh, Int.toNat_natCast]; simp [hne], fun he => by
      rw [← unhide Hq]; unfold wantOfV; rw [whoB_has, Int.toNat_natCast, he]; simp⟩
  have HW := hide (fun (hne : (recAt m.smiths k).1 ≠ 0) (X : World) (hX : Below w2.heap.size w2 X) => wantOf_any ((unhide Hv).below hX) (smy_loose (unhide Hok)) hk hne)
  clear hcl
  generalize recAt m.smiths k = ss at *
  obtain ⟨st, be, rk, my, gu, lo, hi, hd, ca, ut, wk⟩ := ss
  simp only at d0 d1 d2 d3 d4 d5 d6 d7 d8 d9 d10
  go_wp2_with fail
  refine (isGone_any st be rk my gu lo hi hd ca ut wk _).mono ?_
  rintro e w4 ⟨rfl, hb⟩
  have HB4 := hide hb
  replace kb := hide ((unhide kb).below hb (unhide kb).lt)
  replace BB := hide ((unhide BB).trans (hb.mono (unhide BB).size))
  clear hb c2 d0 d1 d2 d3 d4 d5 d6 d7 d8 d9 d10
  by_cases hst : st = 0
  · subst hst
    obtain rfl : q = -1 := (unhide HS).2 rfl
    go_wp2_with fail
    go_ret
    exact ⟨rfl, unhide BB⟩
  have n0 : (st == 0) = false := by simpa using hst
  rw [n0]
  obtain rfl : q = wantV m (k : Int) := (unhide HS).1 hst
  have c0 := (unhide kb).cell (i := 0) (v := .slice a0 m.rooms.length p0) rfl
  have c1 := (unhide kb).cell (i := 1) (v := .slice a1 m.guilds.length p1) rfl
  have c2 := (unhide kb).cell (i := 2) (v := .slice (some ⟨sb, off, none⟩) m.smiths.length p2) rfl
  have c3 := (unhide kb).cell (i := 3) (v := .slice a3 m.desks.length p3) rfl
  have c4 := (unhide kb).cell (i := 4) (v := .slice a4 m.paces.length p4) rfl
  have c5 := (unhide kb).cell (i := 5) (v := .int .i64 m.now) rfl
  go_wp2_with fail
  refine (unhide HW hst _ (unhide HB4)).mono ?_
  rintro e w5 ⟨rfl, hb⟩
  replace BB := hide ((unhide BB).trans (hb.mono (unhide BB).size))
  clear hb c0 c1 c2 c3 c4 c5
  go_wp2_with fail
  go_ret
  exact ⟨rfl, unhide BB⟩

end Go.Proofs.YtaegckehjlkaaaaGreat

/- Contracts of the program's usedAt, UsedAt, hasRoom and hasOpen: each answers what the lists say. Conditions: the smithy can be read; what each theorem names. -/
namespace Go.Proofs.YtaegckehjlkaaaaGreat
open Go.ChangeShapes Go.WideShapes Go.ChangeAt Go.RowKit Go.Sort
set_option linter.unusedVariables false
set_option maxRecDepth 100000

set_option maxHeartbeats 8000000 in
theorem usedAt_any {w : World} {v0 v1 v2 v3 v4 : Value} {m : SmyV} {b q : Int} (hq : usedV m b (-1) = q) (h : Smy w v0 v1 v2 v3 v4 m) (hW : Wants m) (hl : m.smiths.length ≤ 12) : Calls Tryz.prog 58 #[.agg #[v0, v1, v2, v3, v4, .int .i64 m.now], .int .i64 b] w fun e w' => e = .returned (.int .i64 q) ∧ Below w.heap.size w w' := by
  have Hq := hide hq
  clear hq
  have HW := hide hW
  clear hW
  obtain ⟨a0, p0, a1, p1, a2, p2, a3, p3, a4, p4, rfl, rfl, rfl, rfl, rfl, K⟩ := Bx.new h
  clear h
  go_enter Tryz.func58, Tryz.ntmps58
  go_upto_region 2 with fail
  generalize w.alloc (.cells #[.slice a0 m.rooms.length p0, .slice a1 m.guilds.length p1, .slice a2 m.smiths.length p2, .slice a3 m.desks.length p3, .slice a4 m.paces.length p4, .int .i64 m.now] 32) = W at *
  obtain ⟨c0, c1, c2, c3, c4, c5⟩ := K.cells
  go_wp2_with fail
  refine (whoIsAt_any b K.smy (by omega)).mono ?_
  rintro e w1 ⟨vn, rfl, hn, hb⟩
  obtain ⟨na, nc, rfl⟩ := RecAt.shape hn
  have HN := hide hn
  replace K := K.next hb
  clear hb hn c0 c1 c2 c3 c4 c5
  have Hwh := hide (fun k hk => where_at (m := m) (b := b) (k := k) hk)
  have Hat := hide (fun x hx => (whereTo_mem (atB b) m.smiths x m.smiths.length).1 hx)
  have hwl := whereTo_len (atB b) m.smiths m.smiths.length
  rw [← used_where] at Hq
  generalize whereTo (atB b) m.smiths m.smiths.length = ws at *
  go_wp2_with fail
  go_loopw [5, 12] (fun u i wr => ∃ k : Nat, k ≤ ws.length ∧ i = .int .i64 k ∧ u = .int .i64 (sumW m (ws.take k)) ∧ Bx w wr w.heap.size a0 p0 a1 p1 a2 p2 a3 p3 a4 p4 m ∧ Below w1.heap.size w1 wr) (fun _ i _ => ws.length - (intOf i).toNat)
  case atStart => exact ⟨0, Nat.zero_le _, rfl, rfl, K, Below.refl _ _⟩
  case round =>
    obtain ⟨k, hk, rfl, rfl, hK, hb0⟩ := hrel
    clear K
    have K := hK
    have BB := hide hb0
    clear hK hb0
    have hub := sumW_bd m (ws.take k)
    have htl : (ws.take k).length ≤ ws.length := by simp; omega
    by_cases hlt : k < ws.length
    · have hlt1 : (k : Int) < (ws.length : Int) := by omega
      obtain ⟨g, hga, _, hgl, hcl, _⟩ := RecAt.view encNum_len (by omega) (unhide HN) rfl (by omega)
      cases hga
      have z0 := hcl k hlt 0 _ rfl
      simp only [Nat.mul_one, Nat.add_zero] at z0
      have hgw : g < w1.heap.size := hgl
      rw [← (unhide BB).cell (p := ⟨g, k, none⟩) hgw] at z0
      obtain ⟨i, hi, hiw⟩ := unhide Hwh k hlt
      obtain ⟨_, _, hi2, hat⟩ := unhide Hat _ (recAt_mem hlt)
      have hpi : (recAt m.smiths i).1 ≠ 0 := by
        rw [hiw] at hi2
        obtain rfl := Int.ofNat.inj hi2
        intro e
        unfold atB at hat
        rw [e] at hat
        simp at hat
      clear hcl hi2 hat
      have HS : Hid (sumW m (ws.take (k + 1)) = sumW m (ws.take k) + wantV m (i : Int)) := hide (by rw [sumW_step m hlt, hiw])
      rw [hiw] at z0
      have hwb := wantV_bd m (i : Int)
      have HC := hide (fun (X : World) (hX : Smy X (.slice a0 m.rooms.length p0) (.slice a1 m.guilds.length p1) (.slice a2 m.smiths.length p2) (.slice a3 m.desks.length p3) (.slice a4 m.paces.length p4) m) => wantOf_w hX (unhide HW) hi hpi)
      generalize sumW m (ws.take k) = us at *
      generalize wantV m (i : Int) = wa at *
      have hgr : g < wr.heap.size := Nat.lt_of_lt_of_le hgw (unhide BB).size
      obtain ⟨c0, c1, c2, c3, c4, c5⟩ := K.cells
      go_wp2_with fail
      refine (unhide HC _ K.smy).mono ?_
      rintro e w2 ⟨rfl, hb⟩
      replace K := K.next hb
      replace BB := hide ((unhide BB).trans (hb.mono (unhide BB).size))
      clear hb c0 c1 c2 c3 c4 c5 z0
      have hlen12 : (ws.length : Int) ≤ 12 := by omega
      go_wp2_with fail
      go_roundw
      case rel => exact ⟨k + 1, by omega, by go_num, by rw [unhide HS], K, unhide BB⟩
      case measure => simp [intOf]; omega
    · obtain rfl : k = ws.length := by omega
      rw [List.take_length] at *
      obtain rfl : q = sumW m ws := (unhide Hq).symm
      go_wp2_with fail
      go_ret
      exact ⟨rfl, K.bb⟩
set_option maxHeartbeats 4000000 in
theorem hasOpen_any {w : World} {v0 v1 v2 v3 v4 : Value} {m : SmyV} {b : Int} {q : Bool} (hq : openB m b = q) (h : Smy w v0 v1 v2 v3 v4 m) : Calls Tryz.prog 195 #[.agg #[v0, v1, v2, v3, v4, .int .i64 m.now], .int .i64 b] w fun e w' => e = .returned (.bool q) ∧ Below w.heap.size w w' := by
  have Hq := hide hq
  clear hq
  obtain ⟨a0, p0, a1, p1, a2, p2, a3, p3, a4, p4, rfl, rfl, rfl, rfl, rfl, K⟩ := Bx.new h
  clear h
  go_enter Tryz.func195, Tryz.ntmps195
  go_wp2_with fail
  generalize w.alloc (.cells #[.slice a0 m.rooms.length p0, .slice a1 m.guilds.length p1, .slice a2 m.smiths.length p2, .slice a3 m.desks.length p3, .slice a4 m.paces.length p4, .int .i64 m.now] 32) = W at *
  refine (desksOf_any _ _ _ _ _ _ _ _ _ _ _ _ _ _ _ _ _).mono ?_
  rintro e w2 ⟨rfl, hb⟩
  replace K := K.next hb
  clear hb
  obtain ⟨qh, hqh⟩ : ∃ q, hasB m.desks.length b = q := ⟨_, rfl⟩
  have Hh := hide hqh
  clear hqh
  go_wp2_with fail
  refine (hasDesk_any _ _ _ b _).mono ?_
  rw [unhide Hh]
  rintro e w3 ⟨rfl, h9⟩
  subst w3
  cases qh
  · obtain rfl : q = false := by rw [← unhide Hq]; unfold openB; rw [unhide Hh]; rfl
    go_wp2_with fail
    go_ret
    exact ⟨rfl, K.bb⟩
  have hbb : 0 ≤ b ∧ b < (m.desks.length : Int) := by have := unhide Hh; unfold hasB at this; simpa using this
  obtain ⟨k, rfl⟩ : ∃ k : Nat, b = k := ⟨b.toNat, by omega⟩
  have hk : k < m.desks.length := by omega
  have hk1 : (k : Int) < (m.desks.length : Int) := by omega
  obtain ⟨_, _, hde, _, _, r3⟩ := K.smy.desks
  cases hde
  rcases r3 with e0 | ⟨db, off, rfl, hbw, hcl⟩
  · rw [e0] at hk; simp at hk
  obtain ⟨d0, d1, d2⟩ := desk_cells hcl hk
  have hq2 : (recAt m.desks k).1 = q := by rw [← unhide Hq]; unfold openB; rw [unhide Hh, Int.toNat_natCast]; rfl
  clear hcl Hq
  generalize recAt m.desks k = dd at *
  obtain ⟨op, wo, mk⟩ := dd
  simp only at d0 d1 d2 hq2
  subst hq2
  obtain ⟨c0, c1, c2, c3, c4, c5⟩ := K.cells
  go_wp2_with fail
  refine (isOpen_any op wo mk _).mono ?_
  rintro e w4 ⟨rfl, hb⟩
  replace K := K.next hb
  clear hb c0 c1 c2 c3 c4 c5 d0 d1 d2
  go_wp2_with fail
  go_ret
  exact ⟨rfl, K.bb⟩

end Go.Proofs.YtaegckehjlkaaaaGreat

