/- What the proof rests on, part 12: lists and numbers, how they lie in memory, and contracts of the calls. No condition but those that a theorem names. -/
import Derived.Test.YtmfmfdiphlkdiaaGreatXt01
import Derived.Test.YtmfmfdiphlkdiaaGreatXt02
import Derived.Test.YtmfmfdiphlkdiaaGreatXt03
import Derived.Test.YtmfmfdiphlkdiaaGreatXt04
import Derived.Test.YtmfmfdiphlkdiaaGreatXt05
import Derived.Test.YtmfmfdiphlkdiaaGreatXt06
import Derived.Test.YtmfmfdiphlkdiaaGreatXt07
import Derived.Test.YtmfmfdiphlkdiaaGreatXt08
import Derived.Test.YtmfmfdiphlkdiaaGreatXt09
import Derived.Test.YtmfmfdiphlkdiaaGreatXt10
import Derived.Test.YtmfmfdiphlkdiaaGreatXt11
import Derived.Deep.RegionWith
import Derived.Deep.DeepCutAuto
import Derived.WalkMore
import Derived.Below
import Derived.ChangeKeysEq
import Derived.Laws.StructEq
import Derived.WalkKit
import Derived.ProofKit
import Derived.OpenShut
import Derived.Outline
import Derived.Deep.RegionHeld3
import Derived.Deep.DrawnRows
import Derived.BigRegion
import Derived.Deep.RegionLawGrows
import Derived.Deep.LoopGhost
import Derived.Lib.QuietBelow
import Derived.Deep.QuietTactic
import Derived.BigQuiet
import Derived.Laws.OwnMore
import Derived.OwnWalk
import Derived.Maps.AppendAt
import Derived.RangeFuncNested
import Derived.RangeFuncBound
import Derived.RangeFuncCalls
import Derived.RangeFuncLeaves
import Derived.RangeFuncBox
import Derived.Shelf.Abstract
import Derived.Shelf.RegionOpen
import Derived.OwnWalkIn
import Derived.TacticsInMore
import Derived.LoopNIn
import Derived.LoopIn
import Derived.Lib.SmallJoins
import Derived.Deep.Fields
import Derived.Deep.Slices
import Derived.OrdersHeld
import Derived.Deep.RegionHeldLaw
import Derived.Laws.CopyRow
/- Contracts of the program's Queued and Unqueued: each answers what the lists say, in memory of its own, and writes into no memory that was there. Condition: the slice can be read. -/
namespace Go.Proofs.YtmfmfdiphlkdiaaGreat
open Go.ChangeShapes Go.WideShapes Go.ChangeAt Go.RowKit Go.Sort
set_option linter.unusedVariables false

/-- A queue and a bool, handed back; the queue lies in blocks from n₀ on. -/
def GotQ (n₀ : Nat) (r : List PaceV × Bool) (e : Ending) (w' : World) : Prop := ∃ v', e = .returned (.tuple #[v', .bool r.2]) ∧ EntsAt n₀ w' v' r.1
theorem queuedV_no {ps : List PaceV} {e : PaceV} (h : queueB ps = false) : queuedV ps e = ([], false) := by unfold queuedV; rw [h]; rfl
theorem queuedV_stays {ps : List PaceV} {e : PaceV} (h : queueB ps = true) (h2 : queueB (putV ps e) = false) : queuedV ps e = (ps, false) := by unfold queuedV; rw [h, h2]; rfl
theorem queuedV_yes {ps : List PaceV} {e : PaceV} (h : queueB ps = true) (h2 : queueB (putV ps e) = true) : queuedV ps e = (putV ps e, true) := by unfold queuedV; rw [h, h2]; rfl
set_option maxRecDepth 100000 in
set_option maxHeartbeats 4000000 in
theorem implQueued_any {w : World} {v : Value} {ps : List PaceV} (f z : Int) (h : IsPaces w v ps) :
    Calls Tryz.prog 107 #[v, .agg #[.int .i64 f, .int .i64 z]] w fun e w' => GotQ w.heap.size (queuedV ps (f, z)) e w' ∧ Below w.heap.size w w' := by
  have Hv := hide h
  obtain ⟨a, cap, rfl, hc, hm, hr⟩ := h
  clear hr
  cases hq : queueB ps
  · rw [queuedV_no hq]
    go_enter Tryz.func107, Tryz.ntmps107
    go_wp2_with fail
    refine (implQueueOk_any ((unhide Hv).below ((Below.refl _ _).alloc (Nat.le_refl _) _))).mono ?_
    rw [hq]
    rintro e w1 ⟨rfl, hb1⟩
    have B1 : Hid (Below w.heap.size w w1) := hide (((Below.refl _ _).alloc (Nat.le_refl _) _).trans (hb1.mono (by simp)))
    clear hb1
    go_wp2_with fail
    go_ret2
    exact ⟨⟨_, rfl, ents_empty rfl (unhide B1).size⟩, (unhide B1).alloc (unhide B1).size _⟩
  · have hQ := isQ_of hq
    have hlen := hQ.len
    have HQ := hide hQ
    clear hQ
    go_enter Tryz.func107, Tryz.ntmps107
    go_wp2_with fail
    refine (implQueueOk_any ((unhide Hv).below ((Below.refl _ _).alloc (Nat.le_refl _) _))).mono ?_
    rw [hq]
    rintro e w1 ⟨rfl, hb1⟩
    have hz1 : w.heap.size + 1 ≤ w1.heap.size := by have := hb1.size; simpa using this
    have c0 : w1.cell? ⟨w.heap.size, 0, none⟩ = some (.int .i64 f) := (hb1.cell (p := ⟨w.heap.size, 0, none⟩) (by simp)).trans (by simp)
    have c1 : w1.cell? ⟨w.heap.size, 1, none⟩ = some (.int .i64 z) := (hb1.cell (p := ⟨w.heap.size, 1, none⟩) (by simp)).trans (by simp)
    have B1 : Hid (Below w.heap.size w w1) := hide (((Below.refl _ _).alloc (Nat.le_refl _) _).trans (hb1.mono (by simp)))
    clear hb1
    go_wp2_with fail
    refine (heapOf_any ((unhide Hv).below (unhide B1)) (by omega)).mono ?_
    rintro e w2 ⟨bx, v2, rfl, hbx, hh2, hb2⟩
    have hlt1 : w.heap.size < w1.heap.size := by omega
    have d0 := (hb2.cell (p := ⟨w.heap.size, 0, none⟩) hlt1).trans c0
    have d1 := (hb2.cell (p := ⟨w.heap.size, 1, none⟩) hlt1).trans c1
    have hz2 := hb2.size
    have H2 := hide hh2
    have B2 : Hid (Below w.heap.size w w2) := hide ((unhide B1).trans (hb2.mono (by omega)))
    clear hb2 hh2 c0 c1
    go_wp2_with fail
    refine (heapPush_any f z (unhide H2) (ris_heap (unhide HQ).ris) (by omega) hbx hz2).mono ?_
    rintro e w3 ⟨rfl, v3, hs, hh3, hto3, hpe3, hb3⟩
    have hz3 := hb3.size
    have hsl : hs.length = ps.length + 1 := by have := hpe3.length_eq; simpa using this
    have H3 := hide hh3
    have T3 := hide hto3
    have P3 := hide hpe3
    have B3 : Hid (Below w.heap.size w w3) := hide ((unhide B2).trans (hb3.mono (by omega)))
    clear hb3 hh3 hto3 hpe3 d0 d1
    go_wp2_with fail
    refine (emptied_any (unhide H3) (unhide T3) (by omega) hbx (by omega)).mono ?_
    rintro e w4 ⟨v4, qs, rfl, hi4, hris4, hpe4, hb4⟩
    obtain rfl : qs = putV ps (f, z) := sorted_put (unhide HQ) hris4 (hpe4.trans (unhide P3))
    have hz4 := hb4.size
    obtain ⟨a4, cap4, rfl⟩ := hi4.shape
    have H4 := hide hi4
    have B4 : Hid (Below w.heap.size w w4) := hide ((unhide B3).trans (hb4.mono (by omega)))
    clear hi4 hris4 hpe4 hb4 H2 H3 T3 P3
    go_wp2_with fail
    refine (implQueueOk_any (unhide H4).paces).mono ?_
    cases hq2 : queueB (putV ps (f, z))
    · rintro e w5 ⟨rfl, hb5⟩
      have B5 : Hid (Below w.heap.size w w5) := hide ((unhide B4).trans (hb5.mono (by omega)))
      clear hb5
      go_wp2_with fail
      refine (copyOf_any ((unhide Hv).below (unhide B5)) (by omega)).mono ?_
      rintro e w6 ⟨v6, rfl, hi6, hb6⟩
      obtain ⟨a6, cap6, rfl⟩ := hi6.shape
      have H6 := hide hi6
      have B6 : Hid (Below w.heap.size w w6) := hide ((unhide B5).trans (hb6.mono (unhide B5).size))
      clear hi6 hb6
      go_wp2_with fail
      go_ret2
      rw [queuedV_stays hq hq2]
      exact ⟨⟨_, rfl, (unhide H6).mono (unhide B5).size⟩, unhide B6⟩
    · rintro e w5 ⟨rfl, hb5⟩
      have H5 := hide ((unhide H4).later hb5)
      have B5 : Hid (Below w.heap.size w w5) := hide ((unhide B4).trans (hb5.mono (by omega)))
      clear hb5
      go_wp2_with fail
      go_ret2
      rw [queuedV_yes hq hq2]
      exact ⟨⟨_, rfl, (unhide H5).mono (by omega)⟩, unhide B5⟩

end Go.Proofs.YtmfmfdiphlkdiaaGreat

/- Contracts of the program's queueAt, At, wantOf, WantOf, UsedAt: each answers what the lists say. Conditions: the smithy can be read; what each theorem names. -/
namespace Go.Proofs.YtmfmfdiphlkdiaaGreat
open Go.ChangeShapes Go.WideShapes Go.ChangeAt Go.RowKit Go.Sort
set_option linter.unusedVariables false
set_option maxRecDepth 100000

theorem where_at {m : SmyV} {b : Int} {k : Nat} (hk : k < (whereTo (atB b) m.smiths m.smiths.length).length) : ∃ i : Nat, i < m.smiths.length ∧ recAt (whereTo (atB b) m.smiths m.smiths.length) k = (i : Int) := by
  obtain ⟨i, hi, e, _⟩ := (whereTo_mem (atB b) m.smiths _ m.smiths.length).1 (recAt_mem hk)
  exact ⟨i, hi, e⟩
set_option maxHeartbeats 8000000 in
theorem queueAt_any {w : World} {v0 v1 v2 v3 v4 : Value} {m : SmyV} (b : Int) (h : Smy w v0 v1 v2 v3 v4 m) (hL : Loose m) : Calls Tryz.prog 46 #[.agg #[v0, v1, v2, v3, v4, .int .i64 m.now], .int .i64 b] w fun e w' => ∃ v', e = .returned v' ∧ EntsAt w.heap.size w' v' (atV m.smiths b m.smiths.length) ∧ Below w.heap.size w w' := by
  have Hv := hide ((h.alloc (.cells #[v0, v1, v2, v3, v4, .int .i64 m.now] 32)).alloc (.cells #[] 45))
  have HV0 := hide h
  obtain ⟨a0, p0, rfl, _, _⟩ := IsRooms.shape h.rooms
  obtain ⟨a1, p1, rfl, _, _⟩ := IsRec.shape h.guilds
  obtain ⟨a2, p2, rfl, _, _⟩ := IsRec.shape h.smiths
  obtain ⟨a3, p3, rfl, _, _⟩ := IsRec.shape h.desks
  obtain ⟨a4, p4, rfl, _, _⟩ := IsRec.shape h.paces
  clear h
  have hl : m.smiths.length ≤ 1000 := by have := (few_of hL).smiths; omega
  have HL := hide hL
  clear hL
  have kb : Hid (Blk ((w.alloc (.cells #[.slice a0 m.rooms.length p0, .slice a1 m.guilds.length p1, .slice a2 m.smiths.length p2, .slice a3 m.desks.length p3, .slice a4 m.paces.length p4, .int .i64 m.now] 32)).alloc (.cells #[] 45)) w.heap.size 32 #[.slice a0 m.rooms.length p0, .slice a1 m.guilds.length p1, .slice a2 m.smiths.length p2, .slice a3 m.desks.length p3, .slice a4 m.paces.length p4, .int .i64 m.now]) := hide ((Blk.new w _ _).alloc _)
  have BB : Hid (Below w.heap.size w ((w.alloc (.cells #[.slice a0 m.rooms.length p0, .slice a1 m.guilds.length p1, .slice a2 m.smiths.length p2, .slice a3 m.desks.length p3, .slice a4 m.paces.length p4, .int .i64 m.now] 32)).alloc (.cells #[] 45))) := hide (((Below.refl _ _).alloc (Nat.le_refl _) _).alloc (by simp) _)
  have HE : Hid (EntsAt w.heap.size ((w.alloc (.cells #[.slice a0 m.rooms.length p0, .slice a1 m.guilds.length p1, .slice a2 m.smiths.length p2, .slice a3 m.desks.length p3, .slice a4 m.paces.length p4, .int .i64 m.now] 32)).alloc (.cells #[] 45)) (.slice (some ⟨w.heap.size + 1, 0, none⟩) 0 0) []) := hide (ents_empty (by simp) (by simp))
  go_enter Tryz.func46, Tryz.ntmps46
  go_upto_region 2 with fail
  generalize (w.alloc (.cells #[.slice a0 m.rooms.length p0, .slice a1 m.guilds.length p1, .slice a2 m.smiths.length p2, .slice a3 m.desks.length p3, .slice a4 m.paces.length p4, .int .i64 m.now] 32)).alloc (.cells #[] 45) = W at *
  have c0 := (unhide kb).cell (i := 0) (v := .slice a0 m.rooms.length p0) rfl
  have c1 := (unhide kb).cell (i := 1) (v := .slice a1 m.guilds.length p1) rfl
  have c2 := (unhide kb).cell (i := 2) (v := .slice a2 m.smiths.length p2) rfl
  have c3 := (unhide kb).cell (i := 3) (v := .slice a3 m.desks.length p3) rfl
  have c4 := (unhide kb).cell (i := 4) (v := .slice a4 m.paces.length p4) rfl
  have c5 := (unhide kb).cell (i := 5) (v := .int .i64 m.now) rfl
  go_wp2_with fail
  refine (whoIsAt_any b (unhide Hv) hl).mono ?_
  rintro e w1 ⟨vn, rfl, hn, hb⟩
  obtain ⟨na, nc, rfl⟩ := RecAt.shape hn
  have HN0 := hide (RecAt.mono hn (unhide BB).size)
  have Hv1 := hide ((unhide Hv).below hb)
  have kb1 := hide ((unhide kb).below hb (unhide kb).lt)
  have BB1 := hide ((unhide BB).trans (hb.mono (unhide BB).size))
  have HE1 := hide ((unhide HE).later hb)
  clear hb hn c0 c1 c2 c3 c4 c5 Hv kb BB HE
  have Hq := hide (queueOf_at m.smiths b m.smiths.length)
  have Hwh := hide (fun k hk => where_at (m := m) (b := b) (k := k) hk)
  have Hpq := hide (fun k => part_queue (unhide HL) b k)
  have hwl := whereTo_len (atB b) m.smiths m.smiths.length
  generalize whereTo (atB b) m.smiths m.smiths.length = ws at *
  go_wp2_with fail
  go_loopw [5, 13] (fun l i wr => ∃ k : Nat, k ≤ ws.length ∧ i = .int .i64 k ∧ EntsAt w.heap.size wr l (queueOf m.smiths (ws.take k)) ∧ NumsAt w.heap.size wr (.slice na ws.length nc) ws ∧ Blk wr w.heap.size 32 #[.slice a0 m.rooms.length p0, .slice a1 m.guilds.length p1, .slice a2 m.smiths.length p2, .slice a3 m.desks.length p3, .slice a4 m.paces.length p4, .int .i64 m.now] ∧ Smy wr (.slice a0 m.rooms.length p0) (.slice a1 m.guilds.length p1) (.slice a2 m.smiths.length p2) (.slice a3 m.desks.length p3) (.slice a4 m.paces.length p4) m ∧ Below w.heap.size w wr) (fun _ i _ => ws.length - (intOf i).toNat)
  case atStart => exact ⟨0, Nat.zero_le _, rfl, unhide HE1, unhide HN0, unhide kb1, unhide Hv1, unhide BB1⟩
  case round =>
    obtain ⟨k, hk, rfl, he, hn, hkb, hv, hb0⟩ := hrel
    obtain ⟨la, lc, rfl⟩ := EntsAt.shape he
    have HE := hide he
    have HN := hide hn
    have kb := hide hkb
    have Hv := hide hv
    have BB := hide hb0
    clear he hn hkb hv hb0 HE1 HN0 kb1 Hv1 BB1
    by_cases hlt : k < ws.length
    · have hlt1 : (k : Int) < (ws.length : Int) := by omega
      obtain ⟨g, hga, _, _, hcl, _⟩ := RecAt.view encNum_len (by omega) (unhide HN) rfl (by omega)
      cases hga
      have z0 := hcl k hlt 0 _ rfl
      simp only [Nat.mul_one, Nat.add_zero] at z0
      obtain ⟨i, hi, hiw⟩ := unhide Hwh k hlt
      rw [hiw] at z0
      have hi1 : (i : Int) < (m.smiths.length : Int) := by omega
      obtain ⟨_, _, hse, _, _, r2⟩ := (unhide Hv).smiths
      cases hse
      rcases r2 with e0 | ⟨sb, off, rfl, hbw, hcs⟩
      · rw [e0] at hi; simp at hi
      obtain ⟨_, _, _, _, _, _, _, d7, _⟩ := smith_cells hcs hi
      have HT : Hid (queueOf m.smiths (ws.take (k + 1)) = putV (queueOf m.smiths (ws.take k)) (hadS (recAt m.smiths i), (i : Int))) := hide (by rw [take_snoc_at hlt, queueOf_snoc, hiw]; simp)
      have hq1 := unhide Hpq k
      have hq2 := unhide Hpq (k + 1)
      rw [unhide HT] at hq2
      have HQ := hide (queuedV_yes hq1 hq2)
      clear hcl hcs hq1 hq2
      have e7 : (recAt m.smiths i).2.2.2.2.2.2.2.1 = hadS (recAt m.smiths i) := rfl
      rw [e7] at d7
      clear e7
      generalize hadS (recAt m.smiths i) = hd at *
      have c2 := (unhide kb).cell (i := 2) (v := .slice (some ⟨sb, off, none⟩) m.smiths.length p2) rfl
      go_wp2_with fail
      refine (implQueued_any hd (i : Int) (unhide HE).paces).mono ?_
      rw [unhide HQ]
      rintro e w2 ⟨⟨v', rfl, he⟩, hb⟩
      obtain ⟨ua, uc, rfl⟩ := EntsAt.shape he
      have HE2 := hide (he.mono (unhide BB).size)
      replace HN := hide (RecAt.later (unhide HN) hb)
      replace kb := hide ((unhide kb).below hb (unhide kb).lt)
      replace Hv := hide ((unhide Hv).below hb)
      replace BB := hide ((unhide BB).trans (hb.mono (unhide BB).size))
      clear hb he c2 d7 z0
      go_wp2_with fail
      go_roundw
      case rel => exact ⟨k + 1, by omega, by go_num, by rw [unhide HT]; exact unhide HE2, unhide HN, unhide kb, unhide Hv, unhide BB⟩
      case measure => simp [intOf]; omega
    · obtain rfl : k = ws.length := by omega
      have HE3 : Hid (EntsAt w.heap.size wr (.slice la (queueOf m.smiths (ws.take ws.length)).length lc) (atV m.smiths b m.smiths.length)) := hide (by
        have h9 := unhide HE
        have e9 : queueOf m.smiths (ws.take ws.length) = atV m.smiths b m.smiths.length := by rw [List.take_length, unhide Hq]
        rw [← e9]
        exact h9)
      go_wp2_with fail
      go_ret
      exact ⟨_, rfl, unhide HE3, unhide BB⟩
end Go.Proofs.YtmfmfdiphlkdiaaGreat

/- Contracts of FirstIn, the program's and the model's: each returns what the lists say and writes into no memory that was there. Condition: the slices can be read. -/
namespace Go.Proofs.YtmfmfdiphlkdiaaGreat
open Go.ChangeShapes Go.WideShapes Go.ChangeAt Go.RowKit Go.Sort
set_option linter.unusedVariables false

theorem firstV_no {ps : List PaceV} (h : (queueB ps && decide (0 < ps.length)) = false) : firstV ps = ((0, 0), false) := by unfold firstV; rw [h]; rfl
theorem firstV_yes {ps : List PaceV} (h : queueB ps = true) (hl : 0 < ps.length) : firstV ps = (paceAt ps 0, true) := by unfold firstV; rw [h, decide_eq_true hl]; rfl

set_option maxHeartbeats 1000000 in
theorem implFirstIn_any {w : World} {v : Value} {ps : List PaceV} (h : IsPaces w v ps) :
    Calls Tryz.prog 133 #[v] w fun e w' => e = .returned (.tuple #[.agg #[.int .i64 (firstV ps).1.1, .int .i64 (firstV ps).1.2], .bool (firstV ps).2]) ∧ Below w.heap.size w w' := by
  have Hv := hide h
  obtain ⟨a, cap, rfl, hc, hm, hr⟩ := h
  cases hq : queueB ps
  · rw [firstV_no (by rw [hq]; rfl)]
    clear hr
    go_enter Tryz.func133, Tryz.ntmps133
    go_wp2_with fail
    refine (implQueueOk_any ((unhide Hv).below ((Below.refl _ _).alloc (Nat.le_refl _) _))).mono ?_
    rw [hq]
    rintro e w1 ⟨rfl, hb⟩
    have Hb := hide hb
    have hsz := hb.size
    simp at hsz
    obtain ⟨k1, k2⟩ := bcell hb
    clear hb
    go_wp2_with fail
    exact bodyPost_ret (v := .tuple #[.agg #[.int .i64 0, .int .i64 0], .bool false]) (by simp [results, Tryz.results133, go_sem, k1]) rfl ⟨rfl, ((((Below.refl _ _).alloc (Nat.le_refl _) _).trans ((unhide Hb).mono (by simp))).setCell (by simp) _).setCell (by simp) _⟩
  · rcases hr with hr | ⟨b, off, rfl, hbw, hcl⟩
    · subst hr
      rw [firstV_no (by simp)]
      go_enter Tryz.func133, Tryz.ntmps133
      go_wp2_with fail
      refine (implQueueOk_any ((unhide Hv).below ((Below.refl _ _).alloc (Nat.le_refl _) _))).mono ?_
      rw [hq]
      rintro e w1 ⟨rfl, hb⟩
      have Hb := hide hb
      have hsz := hb.size
      simp at hsz
      obtain ⟨k1, k2⟩ := bcell hb
      clear hb
      go_wp2_with fail
      exact bodyPost_ret (v := .tuple #[.agg #[.int .i64 0, .int .i64 0], .bool false]) (by simp [results, Tryz.results133, go_sem, k1]) rfl ⟨rfl, ((((Below.refl _ _).alloc (Nat.le_refl _) _).trans ((unhide Hb).mono (by simp))).setCell (by simp) _).setCell (by simp) _⟩
    · by_cases hl : 0 < ps.length
      · rw [firstV_yes hq hl]
        obtain ⟨c0, c1⟩ := hcl 0 hl
        simp only [Nat.zero_mul, Nat.add_zero] at c0 c1
        generalize paceAt ps 0 = p at *
        obtain ⟨f, z⟩ := p
        simp only at c0 c1
        have hl2 : (ps.length == 0) = false := beq_eq_false_iff_ne.2 (by omega)
        have hl3 : ((ps.length : Int) == 0) = false := beq_eq_false_iff_ne.2 (by omega)
        have hne : b ≠ w.heap.size := Nat.ne_of_lt hbw
        clear hcl
        go_enter Tryz.func133, Tryz.ntmps133
        go_wp2_with fail
        refine (implQueueOk_any ((unhide Hv).below ((Below.refl _ _).alloc (Nat.le_refl _) _))).mono ?_
        rw [hq]
        rintro e w1 ⟨rfl, hb⟩
        have Hb := hide hb
        have hsz := hb.size
        simp at hsz
        have c0' := (hb.cell (p := ⟨b, off, none⟩) (by simp; omega)).trans ((World.cell?_alloc_old _ _ _ hne).trans c0)
        have c1' := (hb.cell (p := ⟨b, off + 1, none⟩) (by simp; omega)).trans ((World.cell?_alloc_old _ _ _ hne).trans c1)
        obtain ⟨k1, k2⟩ := bcell hb
        clear hb c0 c1
        go_wp2_with fail
        exact bodyPost_ret (v := .tuple #[.agg #[.int .i64 f, .int .i64 z], .bool true]) (by simp [results, Tryz.results133, go_sem, k1]) rfl ⟨rfl, ((((Below.refl _ _).alloc (Nat.le_refl _) _).trans ((unhide Hb).mono (by simp))).setCell (by simp) _).setCell (by simp) _⟩
      · obtain rfl : ps = [] := List.eq_nil_of_length_eq_zero (by omega)
        rw [firstV_no (by simp)]
        clear hcl
        go_enter Tryz.func133, Tryz.ntmps133
        go_wp2_with fail
        refine (implQueueOk_any ((unhide Hv).below ((Below.refl _ _).alloc (Nat.le_refl _) _))).mono ?_
        rw [hq]
        rintro e w1 ⟨rfl, hb⟩
        have Hb := hide hb
        have hsz := hb.size
        simp at hsz
        obtain ⟨k1, k2⟩ := bcell hb
        clear hb
        go_wp2_with fail
        exact bodyPost_ret (v := .tuple #[.agg #[.int .i64 0, .int .i64 0], .bool false]) (by simp [results, Tryz.results133, go_sem, k1]) rfl ⟨rfl, ((((Below.refl _ _).alloc (Nat.le_refl _) _).trans ((unhide Hb).mono (by simp))).setCell (by simp) _).setCell (by simp) _⟩

end Go.Proofs.YtmfmfdiphlkdiaaGreat

/- The program's callAt and Turned: a bench, and all benches, are turned in memory of the call's own. Conditions: those that each theorem names. -/
namespace Go.Proofs.YtmfmfdiphlkdiaaGreat
open Go.ChangeShapes Go.WideShapes Go.ChangeAt Go.RowKit Go.Sort
set_option linter.unusedVariables false
set_option linter.unusedSimpArgs false
set_option maxRecDepth 100000

theorem turnB_prog {m : SmyV} {b : Nat} {e : PaceV} {t : List PaceV} (h : atV m.smiths b m.smiths.length = e :: t) : turnB m b = { m with smiths := waitAll (m.smiths.set e.2.toNat (stS (recAt m.smiths e.2.toNat) 3)) t, desks := m.desks.set b ((recAt m.desks b).1, e.2, markedV (recAt m.desks b).2.2 e.1) } := by
  rw [turnB_cons h, turn_way h]

set_option maxHeartbeats 16000000 in
theorem callAt_any {w : World} {n₀ : Nat} {v0 v1 v2 v3 v4 : Value} {m : SmyV} {qs : List (RoomV × Value)} {b : Nat} (hf : FullSmy n₀ w v0 v1 v2 v3 v4 m qs) (hL : Loose m) (hb : b < m.desks.length) :
    Calls Tryz.prog 72 #[.agg #[v0, v1, v2, v3, v4, .int .i64 m.now], .int .i64 (b : Int)] w fun e w' => e = .returned (.tuple #[]) ∧ FullSmy n₀ w' v0 v1 v2 v3 v4 (turnB m b) qs ∧ Two v2.ownBlock v3.ownBlock w w' := by
  have h := hf.smy
  obtain ⟨a0, p0, rfl, _, _⟩ := IsRooms.shape h.rooms
  obtain ⟨a1, p1, rfl, _, _⟩ := IsRec.shape h.guilds
  obtain ⟨a2, p2, rfl, _, _⟩ := IsRec.shape h.smiths
  obtain ⟨a3, p3, rfl, _, _⟩ := IsRec.shape h.desks
  obtain ⟨a4, p4, rfl, _, _⟩ := IsRec.shape h.paces
  have hl12 := smy_twelve hL
  have heig := hL.sane.eight
  obtain ⟨g3, hga, hg3, hg3w, _, _⟩ := RecAt.view encDesk_len (by omega) hf.desks rfl (by omega)
  cases hga
  have L2 : Hid (∀ i, (Value.slice a2 m.smiths.length p2).ownBlock = some i → i < w.heap.size) := hide (fun i e => (RecAt.lt hf.smiths e).2)
  have HQ := hide (at_queue hL (b : Int) m.smiths.length (Nat.le_refl _))
  have HN : Hid (atV m.smiths (b : Int) m.smiths.length = [] → turnB m b = { m with desks := m.desks.set b ((recAt m.desks b).1, -1, (recAt m.desks b).2.2) }) := hide (fun h => turnB_nil h)
  have HC : Hid (∀ e t, atV m.smiths (b : Int) m.smiths.length = e :: t → turnB m b = { m with smiths := waitAll (m.smiths.set e.2.toNat (stS (recAt m.smiths e.2.toNat) 3)) t, desks := m.desks.set b ((recAt m.desks b).1, e.2, markedV (recAt m.desks b).2.2 e.1) }) := hide (fun e t h => turnB_prog h)
  have Hm : Hid (∀ x ∈ atV m.smiths (b : Int) m.smiths.length, ∃ j : Nat, j < m.smiths.length ∧ x.2 = (j : Int)) := hide (fun x hx => by
    obtain ⟨j, hj, _, _, rfl⟩ := (atV_mem m.smiths (b : Int) x m.smiths.length).1 hx
    exact ⟨j, hj, rfl⟩)
  have Hql := hide (atV_len m.smiths (b : Int) m.smiths.length)
  have HF := hide hf
  have HL := hide hL
  have hb1 : (b : Int) < (m.desks.length : Int) := by omega
  clear h hf hL hg3
  go_enter Tryz.func72, Tryz.ntmps72
  go_upto_region 1 with fail
  have hba : Below w.heap.size w (w.alloc (.cells #[.slice a0 m.rooms.length p0, .slice a1 m.guilds.length p1, .slice a2 m.smiths.length p2, .slice (some ⟨g3, 0, none⟩) m.desks.length p3, .slice a4 m.paces.length p4, .int .i64 m.now] 32)) := (Below.refl _ _).alloc (Nat.le_refl _) _
  have kb : Hid (Blk (w.alloc (.cells #[.slice a0 m.rooms.length p0, .slice a1 m.guilds.length p1, .slice a2 m.smiths.length p2, .slice (some ⟨g3, 0, none⟩) m.desks.length p3, .slice a4 m.paces.length p4, .int .i64 m.now] 32)) w.heap.size 32 #[.slice a0 m.rooms.length p0, .slice a1 m.guilds.length p1, .slice a2 m.smiths.length p2, .slice (some ⟨g3, 0, none⟩) m.desks.length p3, .slice a4 m.paces.length p4, .int .i64 m.now]) := hide (Blk.new _ _ _)
  replace HF := hide ((unhide HF).below hba)
  have Tw : Hid (Two (Value.slice a2 m.smiths.length p2).ownBlock (some g3) w (w.alloc (.cells #[.slice a0 m.rooms.length p0, .slice a1 m.guilds.length p1, .slice a2 m.smiths.length p2, .slice (some ⟨g3, 0, none⟩) m.desks.length p3, .slice a4 m.paces.length p4, .int .i64 m.now] 32))) := hide (Two.of_below hba)
  have hgW : g3 < (w.alloc (.cells #[.slice a0 m.rooms.length p0, .slice a1 m.guilds.length p1, .slice a2 m.smiths.length p2, .slice (some ⟨g3, 0, none⟩) m.desks.length p3, .slice a4 m.paces.length p4, .int .i64 m.now] 32)).heap.size := Nat.lt_of_lt_of_le hg3w hba.size
  have hRW : w.heap.size < (w.alloc (.cells #[.slice a0 m.rooms.length p0, .slice a1 m.guilds.length p1, .slice a2 m.smiths.length p2, .slice (some ⟨g3, 0, none⟩) m.desks.length p3, .slice a4 m.paces.length p4, .int .i64 m.now] 32)).heap.size := (unhide kb).lt
  clear hba
  generalize w.alloc (.cells #[.slice a0 m.rooms.length p0, .slice a1 m.guilds.length p1, .slice a2 m.smiths.length p2, .slice (some ⟨g3, 0, none⟩) m.desks.length p3, .slice a4 m.paces.length p4, .int .i64 m.now] 32) = W at *
  have H2 : Hid ((Value.slice a2 m.smiths.length p2).ownBlock ≠ some w.heap.size) := hide (fun e => by have := unhide L2 _ e; omega)
  have H3 : Hid (some g3 ≠ some w.heap.size) := hide (fun e => by cases e; omega)
  have Low2 : Hid (∀ i, (Value.slice a2 m.smiths.length p2).ownBlock = some i → i < W.heap.size) := hide (fun i e => by have := unhide L2 i e; omega)
  have c0 := (unhide kb).cell (i := 0) (v := .slice a0 m.rooms.length p0) rfl
  have c1 := (unhide kb).cell (i := 1) (v := .slice a1 m.guilds.length p1) rfl
  have c2 := (unhide kb).cell (i := 2) (v := .slice a2 m.smiths.length p2) rfl
  have c3 := (unhide kb).cell (i := 3) (v := .slice (some ⟨g3, 0, none⟩) m.desks.length p3) rfl
  have c4 := (unhide kb).cell (i := 4) (v := .slice a4 m.paces.length p4) rfl
  have c5 := (unhide kb).cell (i := 5) (v := .int .i64 m.now) rfl
  go_wp2_with fail
  refine (queueAt_any (b : Int) (unhide HF).smy (unhide HL)).mono ?_
  rintro e w1 ⟨v', rfl, he, hb⟩
  clear c0 c1 c2 c3 c4 c5
  generalize atV m.smiths (b : Int) m.smiths.length = q at *
  obtain ⟨qa, qc, rfl⟩ := EntsAt.shape he
  have HE := hide he
  replace HF := hide ((unhide HF).below hb)
  replace kb := hide ((unhide kb).below hb (unhide kb).lt)
  replace Tw := hide ((unhide Tw).trans (Two.of_below hb))
  have hgw1 : g3 < w1.heap.size := Nat.lt_of_lt_of_le hgW hb.size
  have hw1 := hb.size
  clear he hb
  go_wp2_with fail
  refine (implFirstIn_any (unhide HE).paces).mono ?_
  rintro e w2 ⟨rfl, hb⟩
  replace HE := hide ((unhide HE).later hb)
  replace HF := hide ((unhide HF).below hb)
  replace kb := hide ((unhide kb).below hb (unhide kb).lt)
  replace Tw := hide ((unhide Tw).trans (Two.of_below hb))
  have hgw2 : g3 < w2.heap.size := Nat.lt_of_lt_of_le hgw1 hb.size
  have hw2 : W.heap.size ≤ w2.heap.size := Nat.le_trans hw1 hb.size
  clear hb hw1 hgw1
  obtain ⟨⟨op, wh, mk⟩, hrk⟩ : ∃ d, recAt m.desks b = d := ⟨_, rfl⟩
  rw [hrk] at HN HC
  simp only at HN HC
  have Hrk := hide hrk
  clear hrk
  have Hset : Hid (∀ d, recAt (m.desks.set b d) b = d) := hide (fun d => by rw [recAt_set hb, if_pos rfl])
  cases q with
  | nil =>
    have hfv : firstV [] = ((0, 0), false) := firstV_no rfl
    rw [hfv]
    clear HC hfv
    go_upto_region 4 with fail
    have hba : Below w2.heap.size w2 (w2.alloc (.cells #[.int .i64 0, .int .i64 0] 45)) := (Below.refl _ _).alloc (Nat.le_refl _) _
    replace HF := hide ((unhide HF).below hba)
    replace kb := hide ((unhide kb).below hba (unhide kb).lt)
    replace Tw := hide ((unhide Tw).trans (Two.of_below hba))
    clear hba
    generalize w2.alloc (.cells #[.int .i64 0, .int .i64 0] 45) = X at *
    obtain ⟨_, hga, _, _, hc3, hz3⟩ := RecAt.view encDesk_len (by omega) (unhide HF).desks rfl (by omega)
    cases hga
    have d1 := hc3 b hb 1 _ rfl
    rw [unhide Hrk] at d1
    have f1 := hz3 (b * 3 + 1)
    have c3 := (unhide kb).cell (i := 3) (v := .slice (some ⟨g3, 0, none⟩) m.desks.length p3) rfl
    have hput := (unhide HF).putD rfl (j := b) (i := 1) hb (by omega) (.int .i64 (-1)) (op, -1, mk) (by rw [unhide Hrk]; rfl)
    have HP := hide hput
    clear hput hc3 hz3
    go_wp2_with fail
    refine bodyPost_ret (results_none rfl _ _ _) rfl ?_
    exact ⟨rfl, by rw [unhide HN (by first | rfl | trivial)]; exact unhide HP, (unhide Tw).trans (Two.of_set X (.inr rfl) _ _)⟩
  | cons e t =>
    have hfv : firstV (e :: t) = (e, true) := firstV_yes (unhide HQ) (by simp)
    obtain ⟨i0, hi0, hie⟩ := unhide Hm e (by simp)
    obtain ⟨hd0, ei⟩ := e
    simp only at hie
    subst hie
    rw [hfv]
    have hcons := unhide HC (hd0, (i0 : Int)) t rfl
    simp only [show ((i0 : Int)).toNat = i0 by simp] at hcons
    have Hcons := hide hcons
    have hi1 : (i0 : Int) < (m.smiths.length : Int) := by omega
    have htl : t.length ≤ 12 := by have := unhide Hql; simp at this; omega
    have Hmt : Hid (∀ x ∈ t, ∃ j : Nat, j < m.smiths.length ∧ x.2 = (j : Int)) := hide (fun x hx => unhide Hm x (List.mem_cons_of_mem _ hx))
    clear HN HC hfv hcons Hm HQ Hql
    obtain ⟨n1, hn1⟩ : ∃ n, n = ((hd0, (i0 : Int)) :: t).length := ⟨_, rfl⟩
    rw [← hn1] at HE
    rw [← hn1]
    clear hn1
    dsimp only
    go_upto_region 5 with fail
    have hba : Below w2.heap.size w2 (w2.alloc (.cells #[.int .i64 hd0, .int .i64 (i0 : Int)] 45)) := (Below.refl _ _).alloc (Nat.le_refl _) _
    have ke : Hid (Blk (w2.alloc (.cells #[.int .i64 hd0, .int .i64 (i0 : Int)] 45)) w2.heap.size 45 #[.int .i64 hd0, .int .i64 (i0 : Int)]) := hide (Blk.new _ _ _)
    replace HE := hide ((unhide HE).later hba)
    replace HF := hide ((unhide HF).below hba)
    replace kb := hide ((unhide kb).below hba (unhide kb).lt)
    replace Tw := hide ((unhide Tw).trans (Two.of_below hba))
    have hgX : w2.heap.size < (w2.alloc (.cells #[.int .i64 hd0, .int .i64 (i0 : Int)] 45)).heap.size := (unhide ke).lt
    clear hba
    generalize w2.alloc (.cells #[.int .i64 hd0, .int .i64 (i0 : Int)] 45) = X at *
    obtain ⟨g2, hga, _, _, hc2, hz2⟩ := RecAt.view encSmith_len (by omega) (unhide HF).smiths rfl (by omega)
    cases hga
    have hg2W := unhide Low2 g2 rfl
    have hn23 : g2 ≠ g3 := fun e => (unhide HF).a23 g2 rfl (by rw [e]; rfl)
    have s0 := hc2 i0 hi0 0 _ rfl
    have f0 := hz2 (i0 * 11)
    have hput := (unhide HF).putS rfl (j := i0) (i := 0) hi0 (by omega) (.int .i64 3) (stS (recAt m.smiths i0) 3) rfl
    simp only [Nat.add_zero] at s0 hput
    have HF1 := hide hput
    have c2 := (unhide kb).cell (i := 2) (v := .slice (some ⟨g2, 0, none⟩) m.smiths.length p2) rfl
    have e1 := (unhide ke).cell (i := 1) (v := .int .i64 (i0 : Int)) rfl
    clear hput hc2 hz2
    have ht : Two (some g2) (some g3) X (X.setCell ⟨g2, i0 * 11, none⟩ (.int .i64 3)) := Two.of_set X (.inl rfl) _ _
    have h2R : (some g2 : Option Nat) ≠ some w.heap.size := unhide H2
    have h3R : (some g3 : Option Nat) ≠ some w.heap.size := unhide H3
    have h2E : (some g2 : Option Nat) ≠ some w2.heap.size := fun e => by cases e; omega
    have h3E : (some g3 : Option Nat) ≠ some w2.heap.size := fun e => by cases e; omega
    replace kb := hide ((unhide kb).two ht h2R h3R)
    replace ke := hide ((unhide ke).two ht h2E h3E)
    replace HE := hide (Two.ents (unhide HE) ht (fun i e => by cases e; omega) (fun i e => by cases e; omega))
    have Tw1 : Hid (Two (some g2) (some g3) w (X.setCell ⟨g2, i0 * 11, none⟩ (.int .i64 3))) := hide ((unhide Tw).trans ht)
    clear ht Tw HF
    go_upto_region 6 with fail
    clear s0 f0 c2 e1
    generalize X.setCell ⟨g2, i0 * 11, none⟩ (.int .i64 3) = X1 at *
    obtain ⟨ss, hss⟩ : ∃ q, m.smiths.set i0 (stS (recAt m.smiths i0) 3) = q := ⟨_, rfl⟩
    have hsl : ss.length = m.smiths.length := by rw [← hss]; simp
    rw [hss] at Hcons HF1
    clear hss
    obtain ⟨_, hga, _, _, hc3, hz3⟩ := RecAt.view encDesk_len (by omega) (unhide HF1).desks rfl (by show 0 < m.desks.length; omega)
    cases hga
    have d1 := hc3 b hb 1 _ rfl
    have hrk2 : recAt ({ m with smiths := ss } : SmyV).desks b = (op, wh, mk) := unhide Hrk
    rw [hrk2] at d1
    have f1 := hz3 (b * 3 + 1)
    have c3 := (unhide kb).cell (i := 3) (v := .slice (some ⟨g3, 0, none⟩) m.desks.length p3) rfl
    have e1 := (unhide ke).cell (i := 1) (v := .int .i64 (i0 : Int)) rfl
    have hput := (unhide HF1).putD rfl (j := b) (i := 1) hb (by omega) (.int .i64 (i0 : Int)) (op, (i0 : Int), mk) (by rw [hrk2]; rfl)
    have HF2 := hide hput
    clear hput hc3 hz3 hrk2
    have ht : Two (some g2) (some g3) X1 (X1.setCell ⟨g3, b * 3 + 1, none⟩ (.int .i64 (i0 : Int))) := Two.of_set X1 (.inr rfl) _ _
    replace kb := hide ((unhide kb).two ht h2R h3R)
    replace ke := hide ((unhide ke).two ht h2E h3E)
    replace HE := hide (Two.ents (unhide HE) ht (fun i e => by cases e; omega) (fun i e => by cases e; omega))
    have Tw2 : Hid (Two (some g2) (some g3) w (X1.setCell ⟨g3, b * 3 + 1, none⟩ (.int .i64 (i0 : Int)))) := hide ((unhide Tw1).trans ht)
    clear ht Tw1 HF1
    go_upto_region 7 with fail
    clear d1 f1 c3 e1
    generalize X1.setCell ⟨g3, b * 3 + 1, none⟩ (.int .i64 (i0 : Int)) = X2 at *
    have hD1 : (m.desks.set b (op, (i0 : Int), mk)).length = m.desks.length := by simp
    obtain ⟨_, hga, _, _, hc3, hz3⟩ := RecAt.view encDesk_len (by omega) (unhide HF2).desks hD1.symm (by show 0 < (m.desks.set b _).length; omega)
    cases hga
    have hrk2 : recAt ({ m with smiths := ss, desks := m.desks.set b (op, (i0 : Int), mk) } : SmyV).desks b = (op, (i0 : Int), mk) := unhide Hset _
    have d2 := hc3 b (by show b < (m.desks.set b _).length; omega) 2 _ rfl
    rw [hrk2] at d2
    simp only at d2
    have f2 := hz3 (b * 3 + 2)
    have c3 := (unhide kb).cell (i := 3) (v := .slice (some ⟨g3, 0, none⟩) m.desks.length p3) rfl
    have e0 := (unhide ke).cell (i := 0) (v := .int .i64 hd0) rfl
    have hput := (unhide HF2).putD hD1.symm (j := b) (i := 2) (by show b < (m.desks.set b _).length; omega) (by omega) (.int .i64 (markedV mk hd0)) (op, (i0 : Int), (markedV mk hd0)) (by rw [hrk2]; rfl)
    simp only [List.set_set] at hput
    clear hc3 hz3 hrk2
    refine wp_region_last (S := fun w' => w'.cell? ⟨w.heap.size, 3, none⟩ = some (.slice (some ⟨g3, 0, none⟩) m.desks.length p3) ∧ w'.cell? ⟨g3, b * 3 + 2, none⟩ = some (.int .i64 mk) ∧ w'.cell? ⟨w2.heap.size, 0, none⟩ = some (.int .i64 hd0) ∧ w'.frozen? ⟨g3, b * 3 + 2, none⟩ = false) (by kernel_rfl) (List.cons_ne_nil _ _) (by kernel_rfl) ⟨c3, d2, e0, f2⟩ (fun hHeld => ?_)
    simp only [List.dropLast_cons_cons, List.dropLast_singleton, List.length_cons, List.length_nil, Nat.zero_add, Nat.reduceAdd]
    have hbd : Below X2.heap.size X2 X2.drew := (Below.refl _ _).drew
    (refine wpAnyH_take (i := 0) (v := ?_) rfl (by kernel_rfl) (by kernel_rfl) (by kernel_rfl) (fun _ _ _ h => h) (Or.inl ⟨by rfl, ?_⟩) (by assumption) ?_; rotate_left; (intro W9 hSw; (try dsimp only at hSw); go_simp; (try with_reducible rfl)); (try simp only [Act.put, List.setIfInBounds_toArray, List.set_cons_zero, List.set_cons_succ]))
    (refine wpAnyH_take (i := 1) (v := ?_) rfl (by kernel_rfl) (by kernel_rfl) (by kernel_rfl) (fun _ _ _ h => h) (Or.inl ⟨by rfl, ?_⟩) (by assumption) ?_; rotate_left; (intro W9 hSw; (try dsimp only at hSw); go_simp; (try with_reducible rfl)); (try simp only [Act.put, List.setIfInBounds_toArray, List.set_cons_zero, List.set_cons_succ]))
    (refine wpAnyH_take (i := 2) (v := ?_) rfl (by kernel_rfl) (by kernel_rfl) (by kernel_rfl) (fun _ _ _ h => h) (Or.inl ⟨by rfl, ?_⟩) (by assumption) ?_; rotate_left; (intro W9 hSw; (try dsimp only at hSw); go_simp; (try with_reducible rfl)); (try simp only [Act.put, List.setIfInBounds_toArray, List.set_cons_zero, List.set_cons_succ]))
    (refine wpAnyH_take (i := 3) (v := ?_) rfl (by kernel_rfl) (by kernel_rfl) (by kernel_rfl) (fun _ _ _ h => h) (Or.inl ⟨by rfl, ?_⟩) (by assumption) ?_; rotate_left; (intro W9 hSw; (try dsimp only at hSw); go_simp; (try with_reducible rfl)); (try simp only [Act.put, List.setIfInBounds_toArray, List.set_cons_zero, List.set_cons_succ]))
    (refine wpAnyH_take (i := 4) (v := ?_) rfl (by kernel_rfl) (by kernel_rfl) (by kernel_rfl) (fun _ _ _ h => h) (Or.inl ⟨by rfl, ?_⟩) (by assumption) ?_; rotate_left; (intro W9 hSw; (try dsimp only at hSw); go_simp; (try with_reducible rfl)); (try simp only [Act.put, List.setIfInBounds_toArray, List.set_cons_zero, List.set_cons_succ]))
    (refine wpAnyH_take (i := 5) (v := ?_) rfl (by kernel_rfl) (by kernel_rfl) (by kernel_rfl) (fun _ _ _ h => h) (Or.inl ⟨by rfl, ?_⟩) (by assumption) ?_; rotate_left; (intro W9 hSw; (try dsimp only at hSw); go_simp; (try with_reducible rfl)); (try simp only [Act.put, List.setIfInBounds_toArray, List.set_cons_zero, List.set_cons_succ]))
    (refine wpAnyH_take (i := 6) (v := ?_) rfl (by kernel_rfl) (by kernel_rfl) (by kernel_rfl) (fun _ _ _ h => h) (Or.inl ⟨by rfl, ?_⟩) (by assumption) ?_; rotate_left; (intro W9 hSw; (try dsimp only at hSw); go_simp; (try with_reducible rfl)); (try simp only [Act.put, List.setIfInBounds_toArray, List.set_cons_zero, List.set_cons_succ]))
    (refine wpAnyH_take (i := 7) (v := ?_) rfl (by kernel_rfl) (by kernel_rfl) (by kernel_rfl) (fun _ _ _ h => h) (Or.inl ⟨by rfl, ?_⟩) (by assumption) ?_; rotate_left; (intro W9 hSw; (try dsimp only at hSw); go_simp; (try with_reducible rfl)); (try simp only [Act.put, List.setIfInBounds_toArray, List.set_cons_zero, List.set_cons_succ]))
    (refine wpAnyH_take (i := 8) (v := ?_) rfl (by kernel_rfl) (by kernel_rfl) (by kernel_rfl) (fun _ _ _ h => h) (Or.inl ⟨by rfl, ?_⟩) (by assumption) ?_; rotate_left; (intro W9 hSw; (try dsimp only at hSw); go_simp; (try with_reducible rfl)); (try simp only [Act.put, List.setIfInBounds_toArray, List.set_cons_zero, List.set_cons_succ]))
    (refine wpAnyH_take (i := 9) (v := ?_) rfl (by kernel_rfl) (by kernel_rfl) (by kernel_rfl) (fun _ _ _ h => h) (Or.inl ⟨by rfl, ?_⟩) (by assumption) ?_; rotate_left; (intro W9 hSw; (try dsimp only at hSw); go_simp; (try with_reducible rfl)); (try simp only [Act.put, List.setIfInBounds_toArray, List.set_cons_zero, List.set_cons_succ]))
    (refine wpAnyH_take (i := 10) (v := ?_) rfl (by kernel_rfl) (by kernel_rfl) (by kernel_rfl) (fun _ _ _ h => h) (Or.inl ⟨by rfl, ?_⟩) (by assumption) ?_; rotate_left; (intro W9 hSw; (try dsimp only at hSw); go_simp; (try with_reducible rfl)); (try simp only [Act.put, List.setIfInBounds_toArray, List.set_cons_zero, List.set_cons_succ]))
    refine wpAnyH_ready (rs := [11]) (by kernel_rfl) (by simp) ?_
    refine AllReadyH.cons rfl (fun K hK => ?_) AllReadyH.nil
    go_simp
    refine (implMarked_any mk hd0 _).mono ?_
    rintro e9 w9 ⟨rfl, hb9'⟩
    have hb9 : Below X2.heap.size X2 w9 := hbd.trans hb9'
    clear hb9' hbd
    replace kb := hide ((unhide kb).below hb9 (unhide kb).lt)
    replace ke := hide ((unhide ke).below hb9 (unhide ke).lt)
    replace HE := hide ((unhide HE).later hb9)
    replace Tw2 := hide ((unhide Tw2).trans (Two.of_below hb9))
    have HF3 : Hid (FullSmy n₀ w9 (.slice a0 m.rooms.length p0) (.slice a1 m.guilds.length p1) (.slice (some ⟨g2, 0, none⟩) m.smiths.length p2) (.slice (some ⟨g3, 0, none⟩) m.desks.length p3) (.slice a4 m.paces.length p4) { m with smiths := ss, desks := m.desks.set b (op, (i0 : Int), mk) } qs) := hide ((unhide HF2).below hb9)
    clear hput
    obtain ⟨_, hga, _, _, hc3, hz3⟩ := RecAt.view encDesk_len (by omega) (unhide HF3).desks hD1.symm (by show 0 < (m.desks.set b _).length; omega)
    cases hga
    have hrk2 : recAt ({ m with smiths := ss, desks := m.desks.set b (op, (i0 : Int), mk) } : SmyV).desks b = (op, (i0 : Int), mk) := unhide Hset _
    have d3 := hc3 b (by show b < (m.desks.set b _).length; omega) 2 _ rfl
    rw [hrk2] at d3
    simp only at d3
    have f3 := hz3 (b * 3 + 2)
    have hput := (unhide HF3).putD hD1.symm (j := b) (i := 2) (by show b < (m.desks.set b _).length; omega) (by omega) (.int .i64 (markedV mk hd0)) (op, (i0 : Int), (markedV mk hd0)) (by rw [hrk2]; rfl)
    simp only [List.set_set] at hput
    have HF4 := hide hput
    clear hput hc3 hz3 hrk2
    refine hK.out _ _ ⟨(unhide kb).cell (i := 3) rfl, d3, (unhide ke).cell (i := 0) rfl, f3⟩ (fun hHeld => ?_)
    clear hK K c3 e0 d2 f2 hb9
    (try simp only [Act.put, List.setIfInBounds_toArray, List.set_cons_zero, List.set_cons_succ])
    (refine wpAnyH_take (i := 12) (v := ?_) rfl (by kernel_rfl) (by kernel_rfl) (by kernel_rfl) (fun _ _ _ h => h) (Or.inl ⟨by rfl, ?_⟩) (by assumption) ?_; rotate_left; (intro W9 hSw; (try dsimp only at hSw); go_simp; (try with_reducible rfl)); (try simp only [Act.put, List.setIfInBounds_toArray, List.set_cons_zero, List.set_cons_succ]))
    (refine wpAnyH_take (i := 13) (v := ?_) rfl (by kernel_rfl) (by kernel_rfl) (by kernel_rfl) (fun _ _ _ h => h) (Or.inl ⟨by rfl, ?_⟩) (by assumption) ?_; rotate_left; (intro W9 hSw; (try dsimp only at hSw); go_simp; (try with_reducible rfl)); (try simp only [Act.put, List.setIfInBounds_toArray, List.set_cons_zero, List.set_cons_succ]))
    refine wpAnyH_done (by kernel_rfl) ?_ _
    refine tailQ_run rfl rfl ?_
    go_simp
    clear hHeld d3 f3
    have ht : Two (some g2) (some g3) w9 (w9.setCell ⟨g3, b * 3 + 2, none⟩ (.int .i64 (markedV mk hd0))) := Two.of_set w9 (.inr rfl) _ _
    replace kb := hide ((unhide kb).two ht h2R h3R)
    replace HE := hide (Two.ents (unhide HE) ht (fun i e => by cases e; omega) (fun i e => by cases e; omega))
    have Tw4 : Hid (Two (some g2) (some g3) w (w9.setCell ⟨g3, b * 3 + 2, none⟩ (.int .i64 (markedV mk hd0)))) := hide ((unhide Tw2).trans ht)
    clear ht Tw2 HF3 HF2 ke
    generalize w9.setCell ⟨g3, b * 3 + 2, none⟩ (.int .i64 (markedV mk hd0)) = X4 at *
    obtain ⟨ds, hds⟩ : ∃ q, m.desks.set b (op, (i0 : Int), (markedV mk hd0)) = q := ⟨_, rfl⟩
    rw [hds] at Hcons HF4
    clear hds hD1
    have h2X : g2 < X4.heap.size := by have h9 := (unhide HF4).smiths; exact (RecAt.lt h9 rfl).2
    have h3X : g3 < X4.heap.size := by have h9 := (unhide HF4).desks; exact (RecAt.lt h9 rfl).2
    go_wp2_with fail
    refine (waitingIn_any (unhide HE).paces (by omega)).mono ?_
    rintro e w5 ⟨v5, rfl, he5, hb5⟩
    obtain ⟨ya, yc, rfl⟩ := EntsAt.shape he5
    have HE5 := hide he5
    have hX4 : w.heap.size < X4.heap.size := (unhide kb).lt
    replace kb := hide ((unhide kb).below hb5 (unhide kb).lt)
    replace HF4 := hide ((unhide HF4).below hb5)
    replace Tw4 := hide ((unhide Tw4).trans (Two.of_below hb5))
    clear he5 hb5 HE
    go_wp2_with fail
    go_loopw [54] (fun i wi => ∃ j : Nat, j ≤ t.length ∧ i = .int .i64 j ∧ FullSmy n₀ wi (.slice a0 m.rooms.length p0) (.slice a1 m.guilds.length p1) (.slice (some ⟨g2, 0, none⟩) m.smiths.length p2) (.slice (some ⟨g3, 0, none⟩) m.desks.length p3) (.slice a4 m.paces.length p4) { m with smiths := waitAll ss (t.take j), desks := ds } qs ∧ Two (some g2) (some g3) w5 wi) (fun i _ => t.length - (intOf i).toNat)
    case atStart => exact ⟨0, Nat.zero_le _, rfl, by simpa [waitAll] using unhide HF4, Two.refl _ _ _⟩
    case round =>
      obtain ⟨j, hj, rfl, hf3, htw3⟩ := hrel
      have HF5 := hide hf3
      have Tw5 := hide htw3
      have K5 := hide ((unhide kb).two htw3 h2R h3R)
      have HE6 := hide (Two.ents (unhide HE5) htw3 (fun i e => by cases e; exact h2X) (fun i e => by cases e; exact h3X))
      have hzr := htw3.size
      clear hf3 htw3
      by_cases hjl : j < t.length
      · obtain ⟨_, _, hqe, _, _, hr⟩ := EntsAt.paces (unhide HE6)
        cases hqe
        rcases hr with e0 | ⟨eb, eo, rfl, hbw, hcl⟩
        · rw [e0] at hjl; simp at hjl
        obtain ⟨d0, d1⟩ := hcl j hjl
        obtain ⟨i2, hi2, hie⟩ := unhide Hmt _ (paceAt_mem hjl)
        rw [hie] at d1
        have Htk : Hid (waitAll ss (t.take (j + 1)) = (waitAll ss (t.take j)).set i2 (stS (recAt (waitAll ss (t.take j)) i2) 2)) := hide (by rw [take_one hjl, waitAll_snoc, hie]; simp)
        obtain ⟨hh, hhh⟩ : ∃ q, (paceAt t j).1 = q := ⟨_, rfl⟩
        rw [hhh] at d0
        have hjl1 : (j : Int) < (t.length : Int) := by omega
        clear hcl hie hhh
        go_upto_region 11 with fail
        clear d0 d1
        have hba : Below wr.heap.size wr (wr.alloc (.cells #[.int .i64 hh, .int .i64 (i2 : Int)] 45)) := (Below.refl _ _).alloc (Nat.le_refl _) _
        have ke : Hid (Blk (wr.alloc (.cells #[.int .i64 hh, .int .i64 (i2 : Int)] 45)) wr.heap.size 45 #[.int .i64 hh, .int .i64 (i2 : Int)]) := hide (Blk.new _ _ _)
        replace K5 := hide ((unhide K5).below hba (unhide K5).lt)
        replace HF5 := hide ((unhide HF5).below hba)
        replace Tw5 := hide ((unhide Tw5).trans (Two.of_below hba))
        clear hba
        generalize wr.alloc (.cells #[.int .i64 hh, .int .i64 (i2 : Int)] 45) = Y at *
        have hwl : (waitAll ss (t.take j)).length = m.smiths.length := by rw [waitAll_len, hsl]
        obtain ⟨_, hga, _, _, hc2, hz2⟩ := RecAt.view encSmith_len (by omega) (unhide HF5).smiths hwl.symm (by show 0 < (waitAll ss (t.take j)).length; omega)
        cases hga
        have s0 := hc2 i2 (by show i2 < (waitAll ss (t.take j)).length; omega) 0 _ rfl
        have f0 := hz2 (i2 * 11)
        have hput := (unhide HF5).putS hwl.symm (j := i2) (i := 0) (by show i2 < (waitAll ss (t.take j)).length; omega) (by omega) (.int .i64 2) (stS (recAt (waitAll ss (t.take j)) i2) 2) rfl
        simp only [Nat.add_zero] at s0 hput
        have HF6 := hide hput
        have c2 := (unhide K5).cell (i := 2) (v := .slice (some ⟨g2, 0, none⟩) m.smiths.length p2) rfl
        have e1 := (unhide ke).cell (i := 1) (v := .int .i64 (i2 : Int)) rfl
        have hi3 : (i2 : Int) < (m.smiths.length : Int) := by omega
        clear hput hc2 hz2 hwl
        go_wp2_with fail
        go_roundw
        case rel => exact ⟨j + 1, by omega, by go_num, by rw [unhide Htk]; exact unhide HF6, (unhide Tw5).trans (Two.of_set _ (.inl rfl) _ _)⟩
        case measure => simp [intOf]; omega
      · obtain rfl : j = t.length := by omega
        rw [List.take_length] at HF5
        go_wp2_with fail
        go_end0
        exact ⟨rfl, by rw [unhide Hcons]; exact unhide HF5, (unhide Tw4).trans (unhide Tw5)⟩

set_option maxHeartbeats 8000000 in
theorem implTurned_any (w : World) (v0 v1 v2 v3 v4 : Value) (m : SmyV) (h : Smy w v0 v1 v2 v3 v4 m) :
    Calls Tryz.prog 25 #[.agg #[v0, v1, v2, v3, v4, .int .i64 m.now]] w fun e w' => ∃ u0 u1 u2 u3 u4 rs, e = .returned (.agg #[u0, u1, u2, u3, u4, .int .i64 (turnedV m).now]) ∧ FullSmy w.heap.size w' u0 u1 u2 u3 u4 (turnedV m) rs ∧ Below w.heap.size w w' := by
  obtain ⟨M, hM⟩ : ∃ x, turnedV m = x := ⟨_, rfl⟩
  rw [hM]
  have HM := hide hM
  clear hM
  have Hv0 := hide h
  obtain ⟨a0, p0, rfl, _, _⟩ := IsRooms.shape h.rooms
  obtain ⟨a1, p1, rfl, _, _⟩ := IsRec.shape h.guilds
  obtain ⟨a2, p2, rfl, _, _⟩ := IsRec.shape h.smiths
  obtain ⟨a3, p3, rfl, _, _⟩ := IsRec.shape h.desks
  obtain ⟨a4, p4, rfl, _, _⟩ := IsRec.shape h.paces
  clear h
  obtain ⟨ok, hok⟩ : ∃ q, looseB m = q := ⟨_, rfl⟩
  have Hok := hide hok
  have Hok2 : Hid (inPlaceIB m = ok) := hide (by rw [loose_same]; exact hok)
  clear hok
  go_enter Tryz.func25, Tryz.ntmps25
  go_wp2_with fail
  have kb : Hid (Blk ((w.alloc (.cells #[.slice a0 m.rooms.length p0, .slice a1 m.guilds.length p1, .slice a2 m.smiths.length p2, .slice a3 m.desks.length p3, .slice a4 m.paces.length p4, .int .i64 m.now] 32)).alloc (.cells #[.slice none 0 0, .slice none 0 0, .slice none 0 0, .slice none 0 0, .slice none 0 0, .int .i64 0] 32)) w.heap.size 32 #[.slice a0 m.rooms.length p0, .slice a1 m.guilds.length p1, .slice a2 m.smiths.length p2, .slice a3 m.desks.length p3, .slice a4 m.paces.length p4, .int .i64 m.now]) := hide ((Blk.new w _ _).alloc _)
  have kr : Hid (Blk ((w.alloc (.cells #[.slice a0 m.rooms.length p0, .slice a1 m.guilds.length p1, .slice a2 m.smiths.length p2, .slice a3 m.desks.length p3, .slice a4 m.paces.length p4, .int .i64 m.now] 32)).alloc (.cells #[.slice none 0 0, .slice none 0 0, .slice none 0 0, .slice none 0 0, .slice none 0 0, .int .i64 0] 32)) (w.heap.size + 1) 32 #[.slice none 0 0, .slice none 0 0, .slice none 0 0, .slice none 0 0, .slice none 0 0, .int .i64 0]) := hide (by
    have k := Blk.new (w.alloc (.cells #[.slice a0 m.rooms.length p0, .slice a1 m.guilds.length p1, .slice a2 m.smiths.length p2, .slice a3 m.desks.length p3, .slice a4 m.paces.length p4, .int .i64 m.now] 32)) 32 #[.slice none 0 0, .slice none 0 0, .slice none 0 0, .slice none 0 0, .slice none 0 0, .int .i64 0]
    rw [World.size_alloc] at k
    exact k)
  have BB : Hid (Below w.heap.size w ((w.alloc (.cells #[.slice a0 m.rooms.length p0, .slice a1 m.guilds.length p1, .slice a2 m.smiths.length p2, .slice a3 m.desks.length p3, .slice a4 m.paces.length p4, .int .i64 m.now] 32)).alloc (.cells #[.slice none 0 0, .slice none 0 0, .slice none 0 0, .slice none 0 0, .slice none 0 0, .int .i64 0] 32))) := hide (((Below.refl _ _).alloc (Nat.le_refl _) _).alloc (by simp) _)
  have Hv := hide ((unhide Hv0).below (unhide BB))
  generalize (w.alloc (.cells #[.slice a0 m.rooms.length p0, .slice a1 m.guilds.length p1, .slice a2 m.smiths.length p2, .slice a3 m.desks.length p3, .slice a4 m.paces.length p4, .int .i64 m.now] 32)).alloc (.cells #[.slice none 0 0, .slice none 0 0, .slice none 0 0, .slice none 0 0, .slice none 0 0, .int .i64 0] 32) = W at *
  refine (allInPlace_any (unhide Hv)).mono ?_
  rw [unhide Hok2]
  rintro e w1 ⟨rfl, hb⟩
  replace Hv := hide ((unhide Hv).below hb)
  replace kb := hide ((unhide kb).below hb (unhide kb).lt)
  replace kr := hide ((unhide kr).below hb (unhide kr).lt)
  replace BB := hide ((unhide BB).trans (hb.mono (unhide BB).size))
  clear hb
  cases ok
  · -- it is not right
    obtain rfl : M = zeroM := by rw [← unhide HM]; unfold turnedV; rw [unhide Hok]; rfl
    have o0 := (unhide kr).cell (i := 0) (v := .slice none 0 0) rfl
    have o1 := (unhide kr).cell (i := 1) (v := .slice none 0 0) rfl
    have o2 := (unhide kr).cell (i := 2) (v := .slice none 0 0) rfl
    have o3 := (unhide kr).cell (i := 3) (v := .slice none 0 0) rfl
    have o4 := (unhide kr).cell (i := 4) (v := .slice none 0 0) rfl
    have o5 := (unhide kr).cell (i := 5) (v := .int .i64 0) rfl
    have f0 := (unhide kr).free 0
    have f1 := (unhide kr).free 1
    have f2 := (unhide kr).free 2
    have f3 := (unhide kr).free 3
    have f4 := (unhide kr).free 4
    have f5 := (unhide kr).free 5
    go_wp2_with fail
    refine bodyPost_ret (v := .agg #[.slice none 0 0, .slice none 0 0, .slice none 0 0, .slice none 0 0, .slice none 0 0, .int .i64 0]) (by simp [results, Tryz.results25, go_sem, *]) rfl ⟨_, _, _, _, _, [], rfl, full_zero _ _, ?_⟩
    iterate 6 (refine Below.setCell ?_ (by show _ ≤ w.heap.size + 1; omega) _)
    exact unhide BB
  obtain rfl : M = turnV m := by rw [← unhide HM]; unfold turnedV; rw [unhide Hok]; rfl
  have hlo := loose_of (unhide Hok)
  have HLo := hide hlo
  have HFew := hide (few_of hlo)
  clear hlo
  have c0 := (unhide kb).cell (i := 0) (v := .slice a0 m.rooms.length p0) rfl
  have c1 := (unhide kb).cell (i := 1) (v := .slice a1 m.guilds.length p1) rfl
  have c2 := (unhide kb).cell (i := 2) (v := .slice a2 m.smiths.length p2) rfl
  have c3 := (unhide kb).cell (i := 3) (v := .slice a3 m.desks.length p3) rfl
  have c4 := (unhide kb).cell (i := 4) (v := .slice a4 m.paces.length p4) rfl
  have c5 := (unhide kb).cell (i := 5) (v := .int .i64 m.now) rfl
  go_wp2_with fail
  clear c0 c1 c2 c3 c4 c5
  have hWs : w.heap.size + 2 ≤ w1.heap.size := by have := (unhide kr).lt; omega
  refine (copyOfSmithy_any (unhide Hv) (unhide HFew)).mono ?_
  rintro e w2 ⟨y0, y1, y2, y3, y4, oq, rfl, ho, hb⟩
  have k9 := ho.smy
  obtain ⟨b0, q0, rfl, _, _⟩ := IsRooms.shape k9.rooms
  obtain ⟨b1, q1, rfl, _, _⟩ := IsRec.shape k9.guilds
  obtain ⟨b2, q2, rfl, _, _⟩ := IsRec.shape k9.smiths
  obtain ⟨b3, q3, rfl, _, _⟩ := IsRec.shape k9.desks
  obtain ⟨b4, q4, rfl, _, _⟩ := IsRec.shape k9.paces
  replace Hv := hide ((unhide Hv).below hb)
  replace kb := hide ((unhide kb).below hb (unhide kb).lt)
  replace kr := hide ((unhide kr).below hb (unhide kr).lt)
  replace BB := hide ((unhide BB).trans (hb.mono (unhide BB).size))
  have HO := hide (ho.mono hWs)
  have LO : Hid (∀ k, OwnB (.slice b0 m.rooms.length q0) (.slice b1 m.guilds.length q1) (.slice b2 m.smiths.length q2) (.slice b3 m.desks.length q3) (.slice b4 m.paces.length q4) oq k → w.heap.size + 2 ≤ k ∧ k < w2.heap.size) := hide (fun k e => (unhide HO).own e)
  have hsz9 := hb.size
  clear ho hb k9
  go_upto_region 4 with fail
  have hb : Below w2.heap.size w2 (w2.alloc (.cells #[.slice b0 m.rooms.length q0, .slice b1 m.guilds.length q1, .slice b2 m.smiths.length q2, .slice b3 m.desks.length q3, .slice b4 m.paces.length q4, .int .i64 m.now] 32)) := (Below.refl _ _).alloc (Nat.le_refl _) _
  replace Hv := hide ((unhide Hv).below hb)
  replace kb := hide ((unhide kb).below hb (unhide kb).lt)
  replace kr := hide ((unhide kr).below hb (unhide kr).lt)
  replace BB := hide ((unhide BB).trans (hb.mono (unhide BB).size))
  replace HO := hide ((unhide HO).below hb)
  have ko : Hid (Blk (w2.alloc (.cells #[.slice b0 m.rooms.length q0, .slice b1 m.guilds.length q1, .slice b2 m.smiths.length q2, .slice b3 m.desks.length q3, .slice b4 m.paces.length q4, .int .i64 m.now] 32)) w2.heap.size 32 #[.slice b0 m.rooms.length q0, .slice b1 m.guilds.length q1, .slice b2 m.smiths.length q2, .slice b3 m.desks.length q3, .slice b4 m.paces.length q4, .int .i64 m.now]) := hide (Blk.new _ _ _)
  have hob : w.heap.size + 2 ≤ w2.heap.size := Nat.le_trans hWs hsz9
  clear hb hsz9 hWs
  generalize w2.alloc (.cells #[.slice b0 m.rooms.length q0, .slice b1 m.guilds.length q1, .slice b2 m.smiths.length q2, .slice b3 m.desks.length q3, .slice b4 m.paces.length q4, .int .i64 m.now] 32) = W2 at *
  generalize w2.heap.size = ob at *
  have x3 := (unhide ko).cell (i := 3) (v := .slice b3 m.desks.length q3) rfl
  go_wp2_with fail
  clear x3
  go_loopw [4, 14] (fun u i wr => ∃ k : Nat, k ≤ m.desks.length ∧ i = .int .i64 k ∧ FullSmy (w.heap.size + 2) wr (.slice b0 m.rooms.length q0) (.slice b1 m.guilds.length q1) (.slice b2 m.smiths.length q2) (.slice b3 m.desks.length q3) (.slice b4 m.paces.length q4) (turnK m k) oq ∧ Two (Value.slice b2 m.smiths.length q2).ownBlock (Value.slice b3 m.desks.length q3).ownBlock W2 wr) (fun _ i _ => m.desks.length - (intOf i).toNat)
  case atStart => exact ⟨0, Nat.zero_le _, rfl, unhide HO, Two.refl _ _ _⟩
  case round =>
    obtain ⟨k, hk, rfl, hf1, htw⟩ := hrel
    have H2 : (Value.slice b2 m.smiths.length q2).ownBlock ≠ some ob := fun e => by have := (unhide LO _ (.inr (.inr (.inr (.inl e))))).2; omega
    have H3 : (Value.slice b3 m.desks.length q3).ownBlock ≠ some ob := fun e => by have := (unhide LO _ (.inr (.inr (.inr (.inr (.inl e)))))).2; omega
    have ko1 := hide ((unhide ko).two htw H2 H3)
    have HF1 := hide hf1
    have Tw := hide htw
    clear hf1 htw H2 H3
    have hnow : (turnK m k).now = m.now := (turnK_same m k).2.2.2.1
    have hdl : (turnK m k).desks.length = m.desks.length := (turnK_same m k).2.2.2.2.2
    by_cases hlt : k < m.desks.length
    · have hlt1 : (k : Int) < (m.desks.length : Int) := by omega
      have hc := callAt_any (b := k) (unhide HF1) (turnK_loose (unhide HLo) k hk) (by omega)
      rw [hnow] at hc
      have Hc := hide hc
      clear hc hnow hdl
      have x0 := (unhide ko1).cell (i := 0) (v := .slice b0 m.rooms.length q0) rfl
      have x1 := (unhide ko1).cell (i := 1) (v := .slice b1 m.guilds.length q1) rfl
      have x2 := (unhide ko1).cell (i := 2) (v := .slice b2 m.smiths.length q2) rfl
      have x3 := (unhide ko1).cell (i := 3) (v := .slice b3 m.desks.length q3) rfl
      have x4 := (unhide ko1).cell (i := 4) (v := .slice b4 m.paces.length q4) rfl
      have x5 := (unhide ko1).cell (i := 5) (v := .int .i64 m.now) rfl
      go_wp2_with fail
      clear x0 x1 x2 x3 x4 x5
      refine (unhide Hc).mono ?_
      rintro e w5 ⟨rfl, hf5, ht5⟩
      have HF5 := hide hf5
      have T5 := hide ((unhide Tw).trans ht5)
      clear hf5 ht5
      go_wp2_with fail
      go_roundw
      case rel => exact ⟨k + 1, by omega, by go_num, unhide HF5, unhide T5⟩
      case measure => simp [intOf]; omega
    · -- all are turned
      obtain rfl : k = m.desks.length := by omega
      replace kr := hide ((unhide kr).two (unhide Tw) (fun e => by have := (unhide LO _ (.inr (.inr (.inr (.inl e))))).1; omega) (fun e => by have := (unhide LO _ (.inr (.inr (.inr (.inr (.inl e)))))).1; omega))
      replace BB := hide ((unhide BB).trans ((unhide Tw).below (unhide BB).size (fun k e => by have := (unhide LO k (.inr (.inr (.inr (.inl e))))).1; omega) (fun k e => by have := (unhide LO k (.inr (.inr (.inr (.inr (.inl e)))))).1; omega)))
      have x0 := (unhide ko1).cell (i := 0) (v := .slice b0 m.rooms.length q0) rfl
      have x1 := (unhide ko1).cell (i := 1) (v := .slice b1 m.guilds.length q1) rfl
      have x2 := (unhide ko1).cell (i := 2) (v := .slice b2 m.smiths.length q2) rfl
      have x3 := (unhide ko1).cell (i := 3) (v := .slice b3 m.desks.length q3) rfl
      have x4 := (unhide ko1).cell (i := 4) (v := .slice b4 m.paces.length q4) rfl
      have x5 := (unhide ko1).cell (i := 5) (v := .int .i64 m.now) rfl
      have o0 := (unhide kr).cell (i := 0) (v := .slice none 0 0) rfl
      have o1 := (unhide kr).cell (i := 1) (v := .slice none 0 0) rfl
      have o2 := (unhide kr).cell (i := 2) (v := .slice none 0 0) rfl
      have o3 := (unhide kr).cell (i := 3) (v := .slice none 0 0) rfl
      have o4 := (unhide kr).cell (i := 4) (v := .slice none 0 0) rfl
      have o5 := (unhide kr).cell (i := 5) (v := .int .i64 0) rfl
      have f0 := (unhide kr).free 0
      have f1 := (unhide kr).free 1
      have f2 := (unhide kr).free 2
      have f3 := (unhide kr).free 3
      have f4 := (unhide kr).free 4
      have f5 := (unhide kr).free 5
      have Hnow : Hid ((turnV m).now = m.now) := hide hnow
      clear hnow hdl
      go_wp2_with fail
      refine bodyPost_ret (v := .agg #[.slice b0 m.rooms.length q0, .slice b1 m.guilds.length q1, .slice b2 m.smiths.length q2, .slice b3 m.desks.length q3, .slice b4 m.paces.length q4, .int .i64 m.now]) (by simp [results, Tryz.results25, go_sem, *]) rfl ⟨_, _, _, _, _, oq, by rw [unhide Hnow], ?_, ?_⟩
      · iterate 6 (refine FullSmy.set_off ?_ (fun k e => by have := (unhide LO k e).1; omega) _ _)
        exact (unhide HF1).mono (by omega)
      · iterate 6 (refine Below.setCell ?_ (by show _ ≤ w.heap.size + 1; omega) _)
        exact unhide BB

end Go.Proofs.YtmfmfdiphlkdiaaGreat

/- The walk of the exact law on Turned, as far as the law goes: the model's and the program's contracts are its premises here. -/
namespace Go.Proofs.YtmfmfdiphlkdiaaGreat
open Go.ChangeShapes Go.WideShapes Go.ChangeAt Go.RowKit Go.Sort
set_option linter.unusedVariables false

set_option maxRecDepth 100000 in
set_option maxHeartbeats 16000000 in
theorem walkFnExactTurned_of (hS : (∀ (w : World) (v0 v1 v2 v3 v4 : Value) (m : SmyV), Smy w v0 v1 v2 v3 v4 m → Calls Tryz.prog 27 #[.agg #[v0, v1, v2, v3, v4, .int .i64 m.now]] w fun e w' => ∃ u0 u1 u2 u3 u4 rs, e = .returned (.agg #[u0, u1, u2, u3, u4, .int .i64 (turnedV m).now]) ∧ FullSmy w.heap.size w' u0 u1 u2 u3 u4 (turnedV m) rs ∧ Below w.heap.size w w')) (hI : (∀ (w : World) (v0 v1 v2 v3 v4 : Value) (m : SmyV), Smy w v0 v1 v2 v3 v4 m → Calls Tryz.prog 25 #[.agg #[v0, v1, v2, v3, v4, .int .i64 m.now]] w fun e w' => ∃ u0 u1 u2 u3 u4 rs, e = .returned (.agg #[u0, u1, u2, u3, u4, .int .i64 (turnedV m).now]) ∧ FullSmy w.heap.size w' u0 u1 u2 u3 u4 (turnedV m) rs ∧ Below w.heap.size w w')) (hlen : ∀ (m : SmyV), SmySmall m → SmySmall (turnedV m)) (v0 v1 v2 v3 v4 : Value) (m : SmyV) (w : World) (h : Smy w v0 v1 v2 v3 v4 m) :
    Calls Tryz.prog 6 #[.agg #[v0, v1, v2, v3, v4, .int .i64 m.now]] w fun e w' => e = .returned (.bool true) ∧ Below w.heap.size w w' := by
  have HS := hide hS
  have HI := hide hI
  clear hS hI
  have Hv := hide h
  obtain ⟨a0, p0, rfl, _, _⟩ := IsRooms.shape h.rooms
  obtain ⟨a1, p1, rfl, _, _⟩ := IsRec.shape h.guilds
  obtain ⟨a2, p2, rfl, _, _⟩ := IsRec.shape h.smiths
  obtain ⟨a3, p3, rfl, _, _⟩ := IsRec.shape h.desks
  obtain ⟨a4, p4, rfl, _, _⟩ := IsRec.shape h.paces
  clear h
  have hLs := hide (fun hs => hlen m hs)
  have HS1 := hide (fun W u0 u1 u2 u3 u4 => unhide HS W u0 u1 u2 u3 u4 m)
  have HI1 := hide (fun W u0 u1 u2 u3 u4 => unhide HI W u0 u1 u2 u3 u4 m)
  clear HS HI hlen
  generalize turnedV m = M at *
  go_enter Tryz.func6, Tryz.ntmps6
  go_wp2_with fail
  refine (szSmithy_any ((unhide Hv).alloc _)).mono ?_
  rintro e w1 ⟨x, rfl, hx, hb⟩
  have ka : Hid (Blk w1 w.heap.size 63 #[.slice a0 m.rooms.length p0, .slice a1 m.guilds.length p1, .slice a2 m.smiths.length p2, .slice a3 m.desks.length p3, .slice a4 m.paces.length p4, .int .i64 m.now]) := hide ((Blk.new w _ _).below hb (by simp))
  have BB : Hid (Below w.heap.size w w1) := hide (((Below.refl _ _).alloc (Nat.le_refl _) _).trans (hb.mono (by simp)))
  have Hx := hide hx
  clear hx hb
  by_cases hx0 : x < 0
  · go_wp2_with fail
    go_ret
    exact ⟨rfl, unhide BB⟩
  have Hs := hide (unhide Hx (by omega))
  have HsM := hide (unhide hLs (unhide Hs))
  clear Hx hLs
  have c0 := (unhide ka).cell (i := 0) (v := .slice a0 m.rooms.length p0) rfl
  have c1 := (unhide ka).cell (i := 1) (v := .slice a1 m.guilds.length p1) rfl
  have c2 := (unhide ka).cell (i := 2) (v := .slice a2 m.smiths.length p2) rfl
  have c3 := (unhide ka).cell (i := 3) (v := .slice a3 m.desks.length p3) rfl
  have c4 := (unhide ka).cell (i := 4) (v := .slice a4 m.paces.length p4) rfl
  have c5 := (unhide ka).cell (i := 5) (v := .int .i64 m.now) rfl
  go_wp2_with fail
  refine (toSmithy_any ((unhide Hv).below (unhide BB)) (unhide Hs)).mono ?_
  rintro e w2 ⟨u0, u1, u2, u3, u4, rfl, ho, hb⟩
  clear c0 c1 c2 c3 c4 c5
  have k2 := ho.smy
  obtain ⟨b0, q0, rfl, _, _⟩ := IsRooms.shape k2.rooms
  obtain ⟨b1, q1, rfl, _, _⟩ := IsRec.shape k2.guilds
  obtain ⟨b2, q2, rfl, _, _⟩ := IsRec.shape k2.smiths
  obtain ⟨b3, q3, rfl, _, _⟩ := IsRec.shape k2.desks
  obtain ⟨b4, q4, rfl, _, _⟩ := IsRec.shape k2.paces
  have K2 := hide k2
  clear k2 ho
  replace ka := hide ((unhide ka).below hb (unhide ka).lt)
  replace BB := hide ((unhide BB).trans (hb.mono (unhide BB).size))
  have hw2 : w.heap.size < w2.heap.size := (unhide ka).lt
  clear hb
  go_wp2_with fail
  refine (unhide HS1 _ _ _ _ _ _ (unhide K2)).mono ?_
  rintro e w3 ⟨y0, y1, y2, y3, y4, uq, rfl, ho, hb⟩
  have k9 := ho.smy
  obtain ⟨ua0, uc0, rfl, _, _⟩ := IsRooms.shape k9.rooms
  obtain ⟨ua1, uc1, rfl, _, _⟩ := IsRec.shape k9.guilds
  obtain ⟨ua2, uc2, rfl, _, _⟩ := IsRec.shape k9.smiths
  obtain ⟨ua3, uc3, rfl, _, _⟩ := IsRec.shape k9.desks
  obtain ⟨ua4, uc4, rfl, _, _⟩ := IsRec.shape k9.paces
  clear k9 K2
  replace ka := hide ((unhide ka).below hb (unhide ka).lt)
  replace BB := hide ((unhide BB).trans (hb.mono (unhide BB).size))
  have HU := hide ho
  have LU : Hid (∀ k, OwnB (.slice ua0 M.rooms.length uc0) (.slice ua1 M.guilds.length uc1) (.slice ua2 M.smiths.length uc2) (.slice ua3 M.desks.length uc3) (.slice ua4 M.paces.length uc4) uq k → w2.heap.size ≤ k ∧ k < w3.heap.size) := hide (fun k e => ho.own e)
  have hw3 : w.heap.size < w3.heap.size := (unhide ka).lt
  clear ho hb
  have c0 := (unhide ka).cell (i := 0) (v := .slice a0 m.rooms.length p0) rfl
  have c1 := (unhide ka).cell (i := 1) (v := .slice a1 m.guilds.length p1) rfl
  have c2 := (unhide ka).cell (i := 2) (v := .slice a2 m.smiths.length p2) rfl
  have c3 := (unhide ka).cell (i := 3) (v := .slice a3 m.desks.length p3) rfl
  have c4 := (unhide ka).cell (i := 4) (v := .slice a4 m.paces.length p4) rfl
  have c5 := (unhide ka).cell (i := 5) (v := .int .i64 m.now) rfl
  go_wp2_with fail
  clear c0 c1 c2 c3 c4 c5
  have hba : Below w3.heap.size w3 (w3.alloc (.cells #[.slice ua0 M.rooms.length uc0, .slice ua1 M.guilds.length uc1, .slice ua2 M.smiths.length uc2, .slice ua3 M.desks.length uc3, .slice ua4 M.paces.length uc4, .int .i64 M.now] 32)) := (Below.refl _ _).alloc (Nat.le_refl _) _
  replace ka := hide ((unhide ka).below hba (unhide ka).lt)
  replace HU := hide ((unhide HU).below hba)
  replace BB := hide ((unhide BB).trans (hba.mono (unhide BB).size))
  have ku : Hid (Blk (w3.alloc (.cells #[.slice ua0 M.rooms.length uc0, .slice ua1 M.guilds.length uc1, .slice ua2 M.smiths.length uc2, .slice ua3 M.desks.length uc3, .slice ua4 M.paces.length uc4, .int .i64 M.now] 32)) w3.heap.size 32 #[.slice ua0 M.rooms.length uc0, .slice ua1 M.guilds.length uc1, .slice ua2 M.smiths.length uc2, .slice ua3 M.desks.length uc3, .slice ua4 M.paces.length uc4, .int .i64 M.now]) := hide (Blk.new _ _ _)
  have hsz_W3 : w3.heap.size + 1 ≤ (w3.alloc (.cells #[.slice ua0 M.rooms.length uc0, .slice ua1 M.guilds.length uc1, .slice ua2 M.smiths.length uc2, .slice ua3 M.desks.length uc3, .slice ua4 M.paces.length uc4, .int .i64 M.now] 32)).heap.size := by simp
  clear hba
  generalize w3.alloc (.cells #[.slice ua0 M.rooms.length uc0, .slice ua1 M.guilds.length uc1, .slice ua2 M.smiths.length uc2, .slice ua3 M.desks.length uc3, .slice ua4 M.paces.length uc4, .int .i64 M.now] 32) = W3 at *
  generalize w3.heap.size = ub at *
  refine (toSmithy_full ((unhide Hv).below (unhide BB)) (unhide Hs)).mono ?_
  rintro e w4 ⟨z0, z1, z2, z3, z4, xq, rfl, ho, hb⟩
  have k4 := ho.smy
  obtain ⟨d0, r0, rfl, _, _⟩ := IsRooms.shape k4.rooms
  obtain ⟨d1, r1, rfl, _, _⟩ := IsRec.shape k4.guilds
  obtain ⟨d2, r2, rfl, _, _⟩ := IsRec.shape k4.smiths
  obtain ⟨d3, r3, rfl, _, _⟩ := IsRec.shape k4.desks
  obtain ⟨d4, r4, rfl, _, _⟩ := IsRec.shape k4.paces
  clear k4
  replace ka := hide ((unhide ka).below hb (unhide ka).lt)
  replace HU := hide ((unhide HU).below hb)
  replace ku := hide ((unhide ku).below hb (unhide ku).lt)
  replace BB := hide ((unhide BB).trans (hb.mono (unhide BB).size))
  have HX := hide ho
  have LX : Hid (∀ k, OwnB (.slice d0 m.rooms.length r0) (.slice d1 m.guilds.length r1) (.slice d2 m.smiths.length r2) (.slice d3 m.desks.length r3) (.slice d4 m.paces.length r4) xq k → ub < k ∧ k < w4.heap.size) := hide (fun k e => ⟨Nat.lt_of_lt_of_le (Nat.lt_of_succ_le hsz_W3) (ho.own e).1, (ho.own e).2⟩)
  have hw4 : ub + 1 ≤ w4.heap.size := Nat.le_trans hsz_W3 hb.size
  clear ho hb hsz_W3
  go_wp2_with fail
  have hba : Below w4.heap.size w4 (w4.alloc (.cells #[.slice d0 m.rooms.length r0, .slice d1 m.guilds.length r1, .slice d2 m.smiths.length r2, .slice d3 m.desks.length r3, .slice d4 m.paces.length r4, .int .i64 m.now] 32)) := (Below.refl _ _).alloc (Nat.le_refl _) _
  replace ka := hide ((unhide ka).below hba (unhide ka).lt)
  replace HU := hide ((unhide HU).below hba)
  replace ku := hide ((unhide ku).below hba (unhide ku).lt)
  replace HX := hide ((unhide HX).below hba)
  replace BB := hide ((unhide BB).trans (hba.mono (unhide BB).size))
  have kx : Hid (Blk (w4.alloc (.cells #[.slice d0 m.rooms.length r0, .slice d1 m.guilds.length r1, .slice d2 m.smiths.length r2, .slice d3 m.desks.length r3, .slice d4 m.paces.length r4, .int .i64 m.now] 32)) w4.heap.size 32 #[.slice d0 m.rooms.length r0, .slice d1 m.guilds.length r1, .slice d2 m.smiths.length r2, .slice d3 m.desks.length r3, .slice d4 m.paces.length r4, .int .i64 m.now]) := hide (Blk.new _ _ _)
  have hsz_W4 : w4.heap.size + 1 ≤ (w4.alloc (.cells #[.slice d0 m.rooms.length r0, .slice d1 m.guilds.length r1, .slice d2 m.smiths.length r2, .slice d3 m.desks.length r3, .slice d4 m.paces.length r4, .int .i64 m.now] 32)).heap.size := by simp
  clear hba
  generalize w4.alloc (.cells #[.slice d0 m.rooms.length r0, .slice d1 m.guilds.length r1, .slice d2 m.smiths.length r2, .slice d3 m.desks.length r3, .slice d4 m.paces.length r4, .int .i64 m.now] 32) = W4 at *
  generalize w4.heap.size = xb at *
  refine (unhide HI1 _ _ _ _ _ _ (unhide HX).smy).mono ?_
  rintro e w5 ⟨y0, y1, y2, y3, y4, gq, rfl, ho, hb⟩
  have k9 := ho.smy
  obtain ⟨ga0, gc0, rfl, _, _⟩ := IsRooms.shape k9.rooms
  obtain ⟨ga1, gc1, rfl, _, _⟩ := IsRec.shape k9.guilds
  obtain ⟨ga2, gc2, rfl, _, _⟩ := IsRec.shape k9.smiths
  obtain ⟨ga3, gc3, rfl, _, _⟩ := IsRec.shape k9.desks
  obtain ⟨ga4, gc4, rfl, _, _⟩ := IsRec.shape k9.paces
  clear k9
  replace ka := hide ((unhide ka).below hb (unhide ka).lt)
  replace HU := hide ((unhide HU).below hb)
  replace ku := hide ((unhide ku).below hb (unhide ku).lt)
  replace HX := hide ((unhide HX).below hb)
  replace kx := hide ((unhide kx).below hb (unhide kx).lt)
  replace BB := hide ((unhide BB).trans (hb.mono (unhide BB).size))
  have HG := hide ho
  have LG : Hid (∀ k, OwnB (.slice ga0 M.rooms.length gc0) (.slice ga1 M.guilds.length gc1) (.slice ga2 M.smiths.length gc2) (.slice ga3 M.desks.length gc3) (.slice ga4 M.paces.length gc4) gq k → xb < k ∧ k < w5.heap.size) := hide (fun k e => ⟨Nat.lt_of_lt_of_le (Nat.lt_of_succ_le hsz_W4) (ho.own e).1, (ho.own e).2⟩)
  have hw5 : xb + 1 ≤ w5.heap.size := Nat.le_trans hsz_W4 hb.size
  clear ho hb hsz_W4
  have x0 := (unhide ku).cell (i := 0) (v := .slice ua0 M.rooms.length uc0) rfl
  have x1 := (unhide ku).cell (i := 1) (v := .slice ua1 M.guilds.length uc1) rfl
  have x2 := (unhide ku).cell (i := 2) (v := .slice ua2 M.smiths.length uc2) rfl
  have x3 := (unhide ku).cell (i := 3) (v := .slice ua3 M.desks.length uc3) rfl
  have x4 := (unhide ku).cell (i := 4) (v := .slice ua4 M.paces.length uc4) rfl
  have x5 := (unhide ku).cell (i := 5) (v := .int .i64 M.now) rfl
  go_upto_region 8 with fail
  clear x0 x1 x2 x3 x4 x5
  have hba : Below w5.heap.size w5 (w5.alloc (.cells #[.slice ga0 M.rooms.length gc0, .slice ga1 M.guilds.length gc1, .slice ga2 M.smiths.length gc2, .slice ga3 M.desks.length gc3, .slice ga4 M.paces.length gc4, .int .i64 M.now] 32)) := (Below.refl _ _).alloc (Nat.le_refl _) _
  replace ka := hide ((unhide ka).below hba (unhide ka).lt)
  replace HU := hide ((unhide HU).below hba)
  replace ku := hide ((unhide ku).below hba (unhide ku).lt)
  replace HX := hide ((unhide HX).below hba)
  replace kx := hide ((unhide kx).below hba (unhide kx).lt)
  replace HG := hide ((unhide HG).below hba)
  replace BB := hide ((unhide BB).trans (hba.mono (unhide BB).size))
  have kg : Hid (Blk (w5.alloc (.cells #[.slice ga0 M.rooms.length gc0, .slice ga1 M.guilds.length gc1, .slice ga2 M.smiths.length gc2, .slice ga3 M.desks.length gc3, .slice ga4 M.paces.length gc4, .int .i64 M.now] 32)) w5.heap.size 32 #[.slice ga0 M.rooms.length gc0, .slice ga1 M.guilds.length gc1, .slice ga2 M.smiths.length gc2, .slice ga3 M.desks.length gc3, .slice ga4 M.paces.length gc4, .int .i64 M.now]) := hide (Blk.new _ _ _)
  have hsz_W5 : w5.heap.size + 1 ≤ (w5.alloc (.cells #[.slice ga0 M.rooms.length gc0, .slice ga1 M.guilds.length gc1, .slice ga2 M.smiths.length gc2, .slice ga3 M.desks.length gc3, .slice ga4 M.paces.length gc4, .int .i64 M.now] 32)).heap.size := by simp
  clear hba
  generalize w5.alloc (.cells #[.slice ga0 M.rooms.length gc0, .slice ga1 M.guilds.length gc1, .slice ga2 M.smiths.length gc2, .slice ga3 M.desks.length gc3, .slice ga4 M.paces.length gc4, .int .i64 M.now] 32) = W5 at *
  generalize w5.heap.size = gb at *
  clear hsz_W5
  have x0 := (unhide ku).cell (i := 0) (v := .slice ua0 M.rooms.length uc0) rfl
  have x1 := (unhide ku).cell (i := 1) (v := .slice ua1 M.guilds.length uc1) rfl
  have x2 := (unhide ku).cell (i := 2) (v := .slice ua2 M.smiths.length uc2) rfl
  have x3 := (unhide ku).cell (i := 3) (v := .slice ua3 M.desks.length uc3) rfl
  have x4 := (unhide ku).cell (i := 4) (v := .slice ua4 M.paces.length uc4) rfl
  have x5 := (unhide ku).cell (i := 5) (v := .int .i64 M.now) rfl
  have y0 := (unhide kg).cell (i := 0) (v := .slice ga0 M.rooms.length gc0) rfl
  have y1 := (unhide kg).cell (i := 1) (v := .slice ga1 M.guilds.length gc1) rfl
  have y2 := (unhide kg).cell (i := 2) (v := .slice ga2 M.smiths.length gc2) rfl
  have y3 := (unhide kg).cell (i := 3) (v := .slice ga3 M.desks.length gc3) rfl
  have y4 := (unhide kg).cell (i := 4) (v := .slice ga4 M.paces.length gc4) rfl
  have y5 := (unhide kg).cell (i := 5) (v := .int .i64 M.now) rfl
  go_wp2_with fail
  clear x0 x1 x2 x3 x4 x5 y0 y1 y2 y3 y4 y5
  refine (eqSmithy_yes (unhide HG).smy (unhide HU).smy).mono ?_
  rintro e w6 ⟨rfl, hb⟩
  replace ka := hide ((unhide ka).below hb (unhide ka).lt)
  replace HU := hide ((unhide HU).below hb)
  replace ku := hide ((unhide ku).below hb (unhide ku).lt)
  replace HX := hide ((unhide HX).below hb)
  replace kx := hide ((unhide kx).below hb (unhide kx).lt)
  replace HG := hide ((unhide HG).below hb)
  replace kg := hide ((unhide kg).below hb (unhide kg).lt)
  replace BB := hide ((unhide BB).trans (hb.mono (unhide BB).size))
  clear hb
  have c0 := (unhide ka).cell (i := 0) (v := .slice a0 m.rooms.length p0) rfl
  have c1 := (unhide ka).cell (i := 1) (v := .slice a1 m.guilds.length p1) rfl
  have c2 := (unhide ka).cell (i := 2) (v := .slice a2 m.smiths.length p2) rfl
  have c3 := (unhide ka).cell (i := 3) (v := .slice a3 m.desks.length p3) rfl
  have c4 := (unhide ka).cell (i := 4) (v := .slice a4 m.paces.length p4) rfl
  have c5 := (unhide ka).cell (i := 5) (v := .int .i64 m.now) rfl
  have x0 := (unhide kx).cell (i := 0) (v := .slice d0 m.rooms.length r0) rfl
  have x1 := (unhide kx).cell (i := 1) (v := .slice d1 m.guilds.length r1) rfl
  have x2 := (unhide kx).cell (i := 2) (v := .slice d2 m.smiths.length r2) rfl
  have x3 := (unhide kx).cell (i := 3) (v := .slice d3 m.desks.length r3) rfl
  have x4 := (unhide kx).cell (i := 4) (v := .slice d4 m.paces.length r4) rfl
  have x5 := (unhide kx).cell (i := 5) (v := .int .i64 m.now) rfl
  have V6 := hide ((unhide Hv).below (unhide BB))
  go_upto_region 10 with fail
  go_cut [31] (fun s wc => s = .bool false ∧ Below w6.heap.size w6 wc)
  case first =>
    go_region_with (first
      | (go_at_call 36; refine (toSmithy_any (m := m) ?_ (unhide Hs)).mono ?_; exact (unhide V6).below (Below.refl _ _).drew; rintro e w7 ⟨t0, t1, t2, t3, t4, rfl, ho, hb⟩; have k7 := ho.smy; obtain ⟨f0, j0, rfl, _, _⟩ := IsRooms.shape k7.rooms; obtain ⟨f1, j1, rfl, _, _⟩ := IsRec.shape k7.guilds; obtain ⟨f2, j2, rfl, _, _⟩ := IsRec.shape k7.smiths; obtain ⟨f3, j3, rfl, _, _⟩ := IsRec.shape k7.desks; obtain ⟨f4, j4, rfl, _, _⟩ := IsRec.shape k7.paces; have K7 := hide k7; have Hb7 : Hid (Below w6.heap.size w6 w7) := hide ⟨hb.os, hb.tape, hb.output, hb.size, hb.block⟩; have kx7 := (unhide kx).below (unhide Hb7) (unhide kx).lt; have y0 := kx7.cell (i := 0) (v := .slice d0 m.rooms.length r0) rfl; have y1 := kx7.cell (i := 1) (v := .slice d1 m.guilds.length r1) rfl; have y2 := kx7.cell (i := 2) (v := .slice d2 m.smiths.length r2) rfl; have y3 := kx7.cell (i := 3) (v := .slice d3 m.desks.length r3) rfl; have y4 := kx7.cell (i := 4) (v := .slice d4 m.paces.length r4) rfl; have y5 := kx7.cell (i := 5) (v := .int .i64 m.now) rfl; clear k7 ho hb kx7)
      | (go_at_call 37; refine (eqSmithy_yes (m := m) ?_ ?_).mono ?_; exact ((unhide HX).below (unhide Hb7)).smy; exact unhide K7; rintro e w8 ⟨rfl, hb⟩; have Hb8 := hide hb; clear hb))
    all_goals
      go_wp2_with fail
      go_meet
      exact ⟨rfl, (unhide Hb7).trans ((unhide Hb8).mono (unhide Hb7).size)⟩
  case rest =>
    obtain ⟨rfl, hb⟩ := hcut
    obtain ⟨w8, rfl⟩ : ∃ x, x = wc := ⟨wc, rfl⟩
    clear c0 c1 c2 c3 c4 c5 x0 x1 x2 x3 x4 x5
    replace ka := hide ((unhide ka).below hb (unhide ka).lt)
    replace HU := hide ((unhide HU).below hb)
    replace ku := hide ((unhide ku).below hb (unhide ku).lt)
    replace HX := hide ((unhide HX).below hb)
    replace kx := hide ((unhide kx).below hb (unhide kx).lt)
    replace HG := hide ((unhide HG).below hb)
    replace kg := hide ((unhide kg).below hb (unhide kg).lt)
    replace BB := hide ((unhide BB).trans (hb.mono (unhide BB).size))
    clear hb V6
    have x0 := (unhide kx).cell (i := 0) (v := .slice d0 m.rooms.length r0) rfl
    have x1 := (unhide kx).cell (i := 1) (v := .slice d1 m.guilds.length r1) rfl
    have x2 := (unhide kx).cell (i := 2) (v := .slice d2 m.smiths.length r2) rfl
    have x3 := (unhide kx).cell (i := 3) (v := .slice d3 m.desks.length r3) rfl
    have x4 := (unhide kx).cell (i := 4) (v := .slice d4 m.paces.length r4) rfl
    have x5 := (unhide kx).cell (i := 5) (v := .int .i64 m.now) rfl
    go_wp2_with fail
    clear x0 x1 x2 x3 x4 x5
    refine (markSmithy_any 1 ((unhide HX).mono (n₁ := 0) (Nat.zero_le _)) (unhide Hs) (Nat.zero_le _) (by omega) (by omega)).mono ?_
    rintro e w9 ⟨rfl, _, hon⟩
    have hen := endM_bd (unhide Hs) (unhide HX).rooms
    generalize endM 1 m xq = em at *
    have hwle := (unhide BB).size
    replace HU := hide ((unhide HU).keep fun k e => hon.at ((unhide HU).own e).2 fun e9 => by have h1 := unhide LU k e; have h2 := unhide LX k e9; omega)
    replace HG := hide ((unhide HG).keep fun k e => hon.at ((unhide HG).own e).2 fun e9 => by have h1 := unhide LG k e; have h2 := unhide LX k e9; omega)
    replace ku := hide ((unhide ku).same (hon.at (unhide ku).lt fun e9 => by have h2 := unhide LX _ e9; omega))
    replace kg := hide ((unhide kg).same (hon.at (unhide kg).lt fun e9 => by have h2 := unhide LX _ e9; omega))
    replace ka := hide ((unhide ka).same (hon.at (unhide ka).lt fun e9 => by have h2 := unhide LX _ e9; omega))
    replace BB := hide ((unhide BB).trans (hon.below hwle (fun k e => by have h2 := unhide LX k e; omega)))
    clear hon kx HX hwle
    have hk0 : ¬ em < 0 := by omega
    have x0 := (unhide ku).cell (i := 0) (v := .slice ua0 M.rooms.length uc0) rfl
    have x1 := (unhide ku).cell (i := 1) (v := .slice ua1 M.guilds.length uc1) rfl
    have x2 := (unhide ku).cell (i := 2) (v := .slice ua2 M.smiths.length uc2) rfl
    have x3 := (unhide ku).cell (i := 3) (v := .slice ua3 M.desks.length uc3) rfl
    have x4 := (unhide ku).cell (i := 4) (v := .slice ua4 M.paces.length uc4) rfl
    have x5 := (unhide ku).cell (i := 5) (v := .int .i64 M.now) rfl
    have y0 := (unhide kg).cell (i := 0) (v := .slice ga0 M.rooms.length gc0) rfl
    have y1 := (unhide kg).cell (i := 1) (v := .slice ga1 M.guilds.length gc1) rfl
    have y2 := (unhide kg).cell (i := 2) (v := .slice ga2 M.smiths.length gc2) rfl
    have y3 := (unhide kg).cell (i := 3) (v := .slice ga3 M.desks.length gc3) rfl
    have y4 := (unhide kg).cell (i := 4) (v := .slice ga4 M.paces.length gc4) rfl
    have y5 := (unhide kg).cell (i := 5) (v := .int .i64 M.now) rfl
    go_wp2_with fail
    clear x0 x1 x2 x3 x4 x5 y0 y1 y2 y3 y4 y5
    refine (eqSmithy_yes (unhide HG).smy (unhide HU).smy).mono ?_
    rintro e w10 ⟨rfl, hb⟩
    replace ka := hide ((unhide ka).below hb (unhide ka).lt)
    replace HU := hide ((unhide HU).below hb)
    replace ku := hide ((unhide ku).below hb (unhide ku).lt)
    replace HG := hide ((unhide HG).below hb)
    replace kg := hide ((unhide kg).below hb (unhide kg).lt)
    replace BB := hide ((unhide BB).trans (hb.mono (unhide BB).size))
    clear hb
    have y0 := (unhide kg).cell (i := 0) (v := .slice ga0 M.rooms.length gc0) rfl
    have y1 := (unhide kg).cell (i := 1) (v := .slice ga1 M.guilds.length gc1) rfl
    have y2 := (unhide kg).cell (i := 2) (v := .slice ga2 M.smiths.length gc2) rfl
    have y3 := (unhide kg).cell (i := 3) (v := .slice ga3 M.desks.length gc3) rfl
    have y4 := (unhide kg).cell (i := 4) (v := .slice ga4 M.paces.length gc4) rfl
    have y5 := (unhide kg).cell (i := 5) (v := .int .i64 M.now) rfl
    go_wp2_with fail
    clear y0 y1 y2 y3 y4 y5
    refine (markSmithy_any 1 ((unhide HG).mono (n₁ := 0) (Nat.zero_le _)) (unhide HsM) (Nat.zero_le _) (by omega) (by omega)).mono ?_
    rintro e w11 ⟨rfl, hgm, hon⟩
    have hgr := (unhide HG).rooms
    have hen2 := endM_bd (unhide HsM) hgr
    have hwle := (unhide BB).size
    replace HU := hide ((unhide HU).keep fun k e => hon.at ((unhide HU).own e).2 fun e9 => by have h1 := unhide LU k e; have h2 := unhide LG k e9; omega)
    replace ku := hide ((unhide ku).same (hon.at (unhide ku).lt fun e9 => by have h2 := unhide LG _ e9; omega))
    replace kg := hide ((unhide kg).same (hon.at (unhide kg).lt fun e9 => by have h2 := unhide LG _ e9; omega))
    replace ka := hide ((unhide ka).same (hon.at (unhide ka).lt fun e9 => by have h2 := unhide LG _ e9; omega))
    replace BB := hide ((unhide BB).trans (hon.below hwle (fun k e => by have h2 := unhide LG k e; omega)))
    replace HG := hide hgm
    have Hgr := hide hgr
    clear hgm hon hwle hgr
    have y0 := (unhide kg).cell (i := 0) (v := .slice ga0 M.rooms.length gc0) rfl
    have y1 := (unhide kg).cell (i := 1) (v := .slice ga1 M.guilds.length gc1) rfl
    have y2 := (unhide kg).cell (i := 2) (v := .slice ga2 M.smiths.length gc2) rfl
    have y3 := (unhide kg).cell (i := 3) (v := .slice ga3 M.desks.length gc3) rfl
    have y4 := (unhide kg).cell (i := 4) (v := .slice ga4 M.paces.length gc4) rfl
    have y5 := (unhide kg).cell (i := 5) (v := .int .i64 M.now) rfl
    go_wp2_with fail
    clear y0 y1 y2 y3 y4 y5
    refine (heldSmithy_yes 1 (unhide HG) (unhide HsM).rooms (unhide Hgr) (unhide HsM) (by omega) (by omega)).mono ?_
    rintro e w12 ⟨rfl, hb⟩
    replace ka := hide ((unhide ka).below hb (unhide ka).lt)
    replace HU := hide ((unhide HU).below hb)
    replace ku := hide ((unhide ku).below hb (unhide ku).lt)
    replace HG := hide ((unhide HG).below hb)
    replace kg := hide ((unhide kg).below hb (unhide kg).lt)
    replace BB := hide ((unhide BB).trans (hb.mono (unhide BB).size))
    clear hb
    have Hen2 := hide hen2
    obtain ⟨en, hene⟩ : ∃ x, endM 1 M gq = x := ⟨_, rfl⟩
    have hnn : ¬ en < 0 := by rw [← hene]; omega
    have Hene := hide hene
    rw [hene]
    clear hene hen2
    have c0 := (unhide ka).cell (i := 0) (v := .slice a0 m.rooms.length p0) rfl
    have c1 := (unhide ka).cell (i := 1) (v := .slice a1 m.guilds.length p1) rfl
    have c2 := (unhide ka).cell (i := 2) (v := .slice a2 m.smiths.length p2) rfl
    have c3 := (unhide ka).cell (i := 3) (v := .slice a3 m.desks.length p3) rfl
    have c4 := (unhide ka).cell (i := 4) (v := .slice a4 m.paces.length p4) rfl
    have c5 := (unhide ka).cell (i := 5) (v := .int .i64 m.now) rfl
    go_wp2_with fail
    clear c0 c1 c2 c3 c4 c5
    refine (toSmithy_any ((unhide Hv).below (unhide BB)) (unhide Hs)).mono ?_
    rintro e w13 ⟨s0, s1, s2, s3, s4, rfl, ho, hb⟩
    have k13 := ho.smy
    obtain ⟨f0, j0, rfl, _, _⟩ := IsRooms.shape k13.rooms
    obtain ⟨f1, j1, rfl, _, _⟩ := IsRec.shape k13.guilds
    obtain ⟨f2, j2, rfl, _, _⟩ := IsRec.shape k13.smiths
    obtain ⟨f3, j3, rfl, _, _⟩ := IsRec.shape k13.desks
    obtain ⟨f4, j4, rfl, _, _⟩ := IsRec.shape k13.paces
    have K13 := hide k13
    clear k13 ho
    replace ka := hide ((unhide ka).below hb (unhide ka).lt)
    replace HU := hide ((unhide HU).below hb)
    replace ku := hide ((unhide ku).below hb (unhide ku).lt)
    replace HG := hide ((unhide HG).below hb)
    replace kg := hide ((unhide kg).below hb (unhide kg).lt)
    replace BB := hide ((unhide BB).trans (hb.mono (unhide BB).size))
    clear hb
    go_wp2_with fail
    refine (unhide HI1 _ _ _ _ _ _ (unhide K13)).mono ?_
    rintro e w14 ⟨y0, y1, y2, y3, y4, hq, rfl, ho, hb⟩
    have k9 := ho.smy
    obtain ⟨ha0, hc0, rfl, _, _⟩ := IsRooms.shape k9.rooms
    obtain ⟨ha1, hc1, rfl, _, _⟩ := IsRec.shape k9.guilds
    obtain ⟨ha2, hc2, rfl, _, _⟩ := IsRec.shape k9.smiths
    obtain ⟨ha3, hc3, rfl, _, _⟩ := IsRec.shape k9.desks
    obtain ⟨ha4, hc4, rfl, _, _⟩ := IsRec.shape k9.paces
    clear ho K13
    replace ka := hide ((unhide ka).below hb (unhide ka).lt)
    replace HU := hide ((unhide HU).below hb)
    replace ku := hide ((unhide ku).below hb (unhide ku).lt)
    replace HG := hide ((unhide HG).below hb)
    replace kg := hide ((unhide kg).below hb (unhide kg).lt)
    replace BB := hide ((unhide BB).trans (hb.mono (unhide BB).size))
    have HH := hide k9
    clear k9 hb
    go_upto_region 25 with fail
    have hba : Below w14.heap.size w14 (w14.alloc (.cells #[.slice ha0 M.rooms.length hc0, .slice ha1 M.guilds.length hc1, .slice ha2 M.smiths.length hc2, .slice ha3 M.desks.length hc3, .slice ha4 M.paces.length hc4, .int .i64 M.now] 32)) := (Below.refl _ _).alloc (Nat.le_refl _) _
    replace ka := hide ((unhide ka).below hba (unhide ka).lt)
    replace HU := hide ((unhide HU).below hba)
    replace ku := hide ((unhide ku).below hba (unhide ku).lt)
    replace HG := hide ((unhide HG).below hba)
    replace kg := hide ((unhide kg).below hba (unhide kg).lt)
    replace HH := hide ((unhide HH).below hba)
    replace BB := hide ((unhide BB).trans (hba.mono (unhide BB).size))
    have kh : Hid (Blk (w14.alloc (.cells #[.slice ha0 M.rooms.length hc0, .slice ha1 M.guilds.length hc1, .slice ha2 M.smiths.length hc2, .slice ha3 M.desks.length hc3, .slice ha4 M.paces.length hc4, .int .i64 M.now] 32)) w14.heap.size 32 #[.slice ha0 M.rooms.length hc0, .slice ha1 M.guilds.length hc1, .slice ha2 M.smiths.length hc2, .slice ha3 M.desks.length hc3, .slice ha4 M.paces.length hc4, .int .i64 M.now]) := hide (Blk.new _ _ _)
    have hsz_W14 : w14.heap.size + 1 ≤ (w14.alloc (.cells #[.slice ha0 M.rooms.length hc0, .slice ha1 M.guilds.length hc1, .slice ha2 M.smiths.length hc2, .slice ha3 M.desks.length hc3, .slice ha4 M.paces.length hc4, .int .i64 M.now] 32)).heap.size := by simp
    clear hba
    generalize w14.alloc (.cells #[.slice ha0 M.rooms.length hc0, .slice ha1 M.guilds.length hc1, .slice ha2 M.smiths.length hc2, .slice ha3 M.desks.length hc3, .slice ha4 M.paces.length hc4, .int .i64 M.now] 32) = W14 at *
    generalize w14.heap.size = hb2 at *
    clear hsz_W14
    have x0 := (unhide ku).cell (i := 0) (v := .slice ua0 M.rooms.length uc0) rfl
    have x1 := (unhide ku).cell (i := 1) (v := .slice ua1 M.guilds.length uc1) rfl
    have x2 := (unhide ku).cell (i := 2) (v := .slice ua2 M.smiths.length uc2) rfl
    have x3 := (unhide ku).cell (i := 3) (v := .slice ua3 M.desks.length uc3) rfl
    have x4 := (unhide ku).cell (i := 4) (v := .slice ua4 M.paces.length uc4) rfl
    have x5 := (unhide ku).cell (i := 5) (v := .int .i64 M.now) rfl
    have y0 := (unhide kh).cell (i := 0) (v := .slice ha0 M.rooms.length hc0) rfl
    have y1 := (unhide kh).cell (i := 1) (v := .slice ha1 M.guilds.length hc1) rfl
    have y2 := (unhide kh).cell (i := 2) (v := .slice ha2 M.smiths.length hc2) rfl
    have y3 := (unhide kh).cell (i := 3) (v := .slice ha3 M.desks.length hc3) rfl
    have y4 := (unhide kh).cell (i := 4) (v := .slice ha4 M.paces.length hc4) rfl
    have y5 := (unhide kh).cell (i := 5) (v := .int .i64 M.now) rfl
    go_wp2_with fail
    clear x0 x1 x2 x3 x4 x5 y0 y1 y2 y3 y4 y5
    refine (eqSmithy_yes (unhide HH) (unhide HU).smy).mono ?_
    rintro e w15 ⟨rfl, hb⟩
    replace ka := hide ((unhide ka).below hb (unhide ka).lt)
    replace HU := hide ((unhide HU).below hb)
    replace ku := hide ((unhide ku).below hb (unhide ku).lt)
    replace HG := hide ((unhide HG).below hb)
    replace kg := hide ((unhide kg).below hb (unhide kg).lt)
    replace HH := hide ((unhide HH).below hb)
    replace kh := hide ((unhide kh).below hb (unhide kh).lt)
    replace BB := hide ((unhide BB).trans (hb.mono (unhide BB).size))
    clear hb
    have y0 := (unhide kg).cell (i := 0) (v := .slice ga0 M.rooms.length gc0) rfl
    have y1 := (unhide kg).cell (i := 1) (v := .slice ga1 M.guilds.length gc1) rfl
    have y2 := (unhide kg).cell (i := 2) (v := .slice ga2 M.smiths.length gc2) rfl
    have y3 := (unhide kg).cell (i := 3) (v := .slice ga3 M.desks.length gc3) rfl
    have y4 := (unhide kg).cell (i := 4) (v := .slice ga4 M.paces.length gc4) rfl
    have y5 := (unhide kg).cell (i := 5) (v := .int .i64 M.now) rfl
    go_wp2_with fail
    clear y0 y1 y2 y3 y4 y5
    refine (heldSmithy_yes 1 (unhide HG) (unhide HsM).rooms (unhide Hgr) (unhide HsM) (by omega) (by omega)).mono ?_
    rw [unhide Hene]
    rintro e w16 ⟨rfl, hb⟩
    replace ka := hide ((unhide ka).below hb (unhide ka).lt)
    replace HU := hide ((unhide HU).below hb)
    replace ku := hide ((unhide ku).below hb (unhide ku).lt)
    replace HG := hide ((unhide HG).below hb)
    replace kg := hide ((unhide kg).below hb (unhide kg).lt)
    replace HH := hide ((unhide HH).below hb)
    replace kh := hide ((unhide kh).below hb (unhide kh).lt)
    replace BB := hide ((unhide BB).trans (hb.mono (unhide BB).size))
    clear hb
    go_wp2_with fail
    go_ret
    exact ⟨rfl, unhide BB⟩

end Go.Proofs.YtmfmfdiphlkdiaaGreat

/- The walk of the exact law on Turned. Condition: the smithy can be read. -/
namespace Go.Proofs.YtmfmfdiphlkdiaaGreat
open Go.ChangeShapes Go.WideShapes Go.ChangeAt Go.RowKit Go.Sort
set_option linter.unusedVariables false
set_option linter.unusedSimpArgs false
set_option maxRecDepth 100000

theorem turned_small (m : SmyV) (h : SmySmall m) : SmySmall (turnedV m) := by
  unfold turnedV
  split
  · obtain ⟨e1, e2, e3, e4, e5, e6⟩ := turnK_same m m.desks.length
    exact ⟨by unfold turnV; rw [e1]; exact h.rooms, by unfold turnV; rw [e2]; exact h.guilds, by unfold turnV; rw [e5]; exact h.smiths, by unfold turnV; rw [e6]; exact h.desks, by unfold turnV; rw [e3]; exact h.paces⟩
  · exact ⟨⟨Nat.zero_le _, fun j hj => absurd hj (Nat.not_lt_zero _)⟩, Nat.zero_le _, Nat.zero_le _, Nat.zero_le _, Nat.zero_le _⟩
theorem walkFnExactTurned (v0 v1 v2 v3 v4 : Value) (m : SmyV) (w : World) (h : Smy w v0 v1 v2 v3 v4 m) :
    Calls Tryz.prog 6 #[.agg #[v0, v1, v2, v3, v4, .int .i64 m.now]] w fun e w' => e = .returned (.bool true) ∧ Below w.heap.size w w' := walkFnExactTurned_of specTurned_any implTurned_any turned_small v0 v1 v2 v3 v4 m w h

end Go.Proofs.YtmfmfdiphlkdiaaGreat

