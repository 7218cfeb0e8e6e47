/- What the proof rests on, part 17: lists and numbers, how they lie in memory, and contracts of the calls. No condition but those that a theorem names. -/
import Derived.Test.YthbbahagpmdooaaGreatDoorXr01
import Derived.Test.YthbbahagpmdooaaGreatDoorXr02
import Derived.Test.YthbbahagpmdooaaGreatDoorXr03
import Derived.Test.YthbbahagpmdooaaGreatDoorXr04
import Derived.Test.YthbbahagpmdooaaGreatDoorXr05
import Derived.Test.YthbbahagpmdooaaGreatDoorXr06
import Derived.Test.YthbbahagpmdooaaGreatDoorXr07
import Derived.Test.YthbbahagpmdooaaGreatDoorXr08
import Derived.Test.YthbbahagpmdooaaGreatDoorXr09
import Derived.Test.YthbbahagpmdooaaGreatDoorXr10
import Derived.Test.YthbbahagpmdooaaGreatDoorXr11
import Derived.Test.YthbbahagpmdooaaGreatDoorXr12
import Derived.Test.YthbbahagpmdooaaGreatDoorXr13
import Derived.Test.YthbbahagpmdooaaGreatDoorXr14
import Derived.Test.YthbbahagpmdooaaGreatDoorXr15
import Derived.Test.YthbbahagpmdooaaGreatDoorXr16
import Derived.WalkMore
import Derived.Below
import Derived.ChangeKeysEq
import Derived.Laws.StructEq
import Derived.WalkKit
import Derived.ProofKit
import Derived.OpenShut
import Derived.Outline
import Derived.Deep.RegionHeld3
import Derived.Deep.DrawnRows
import Derived.BigRegion
import Derived.Deep.RegionLawGrows
import Derived.Deep.LoopGhost
import Derived.Lib.QuietBelow
import Derived.Deep.RegionWith
import Derived.Deep.QuietTactic
import Derived.BigQuiet
import Derived.Laws.OwnMore
import Derived.OwnWalk
import Derived.Maps.AppendAt
import Derived.RangeFuncNested
import Derived.RangeFuncBound
import Derived.RangeFuncCalls
import Derived.RangeFuncLeaves
import Derived.RangeFuncBox
import Derived.Shelf.Abstract
import Derived.Shelf.RegionOpen
import Derived.OwnWalkIn
import Derived.TacticsInMore
import Derived.LoopNIn
import Derived.LoopIn
import Derived.Lib.SmallJoins
import Derived.Deep.Fields
import Derived.Deep.Slices
import Derived.OrdersHeld
import Derived.Deep.RegionHeldLaw
import Derived.Deep.DeepCutAuto
/- Contracts of the program's Queued and Unqueued: each answers what the lists say, in memory of its own, and writes into no memory that was there. Condition: the slice can be read. -/
namespace Go.Proofs.YthbbahagpmdooaaGreatDoor
open Go.ChangeShapes Go.WideShapes Go.ChangeAt Go.RowKit Go.Sort
set_option linter.unusedVariables false

/-- A queue and a bool, handed back; the queue lies in blocks from n₀ on. -/
def GotQ (n₀ : Nat) (r : List PaceV × Bool) (e : Ending) (w' : World) : Prop := ∃ v', e = .returned (.tuple #[v', .bool r.2]) ∧ EntsAt n₀ w' v' r.1
theorem queuedV_no {ps : List PaceV} {e : PaceV} (h : queueB ps = false) : queuedV ps e = ([], false) := by unfold queuedV; rw [h]; rfl
theorem queuedV_stays {ps : List PaceV} {e : PaceV} (h : queueB ps = true) (h2 : queueB (putV ps e) = false) : queuedV ps e = (ps, false) := by unfold queuedV; rw [h, h2]; rfl
theorem queuedV_yes {ps : List PaceV} {e : PaceV} (h : queueB ps = true) (h2 : queueB (putV ps e) = true) : queuedV ps e = (putV ps e, true) := by unfold queuedV; rw [h, h2]; rfl
set_option maxRecDepth 100000 in
set_option maxHeartbeats 4000000 in
theorem implQueued_any {w : World} {v : Value} {ps : List PaceV} (f z : Int) (h : IsPaces w v ps) :
    Calls Tryz.prog 261 #[v, .agg #[.int .i64 f, .int .i64 z]] w fun e w' => GotQ w.heap.size (queuedV ps (f, z)) e w' ∧ Below w.heap.size w w' := by
  have Hv := hide h
  obtain ⟨a, cap, rfl, hc, hm, hr⟩ := h
  clear hr
  cases hq : queueB ps
  · rw [queuedV_no hq]
    go_enter Tryz.func261, Tryz.ntmps261
    go_wp2_with fail
    refine (implQueueOk_any ((unhide Hv).below ((Below.refl _ _).alloc (Nat.le_refl _) _))).mono ?_
    rw [hq]
    rintro e w1 ⟨rfl, hb1⟩
    have B1 : Hid (Below w.heap.size w w1) := hide (((Below.refl _ _).alloc (Nat.le_refl _) _).trans (hb1.mono (by simp)))
    clear hb1
    go_wp2_with fail
    go_ret2
    exact ⟨⟨_, rfl, ents_empty rfl (unhide B1).size⟩, (unhide B1).alloc (unhide B1).size _⟩
  · have hQ := isQ_of hq
    have hlen := hQ.len
    have HQ := hide hQ
    clear hQ
    go_enter Tryz.func261, Tryz.ntmps261
    go_wp2_with fail
    refine (implQueueOk_any ((unhide Hv).below ((Below.refl _ _).alloc (Nat.le_refl _) _))).mono ?_
    rw [hq]
    rintro e w1 ⟨rfl, hb1⟩
    have hz1 : w.heap.size + 1 ≤ w1.heap.size := by have := hb1.size; simpa using this
    have c0 : w1.cell? ⟨w.heap.size, 0, none⟩ = some (.int .i64 f) := (hb1.cell (p := ⟨w.heap.size, 0, none⟩) (by simp)).trans (by simp)
    have c1 : w1.cell? ⟨w.heap.size, 1, none⟩ = some (.int .i64 z) := (hb1.cell (p := ⟨w.heap.size, 1, none⟩) (by simp)).trans (by simp)
    have B1 : Hid (Below w.heap.size w w1) := hide (((Below.refl _ _).alloc (Nat.le_refl _) _).trans (hb1.mono (by simp)))
    clear hb1
    go_wp2_with fail
    refine (heapOf_any ((unhide Hv).below (unhide B1)) (by omega)).mono ?_
    rintro e w2 ⟨bx, v2, rfl, hbx, hh2, hb2⟩
    have hlt1 : w.heap.size < w1.heap.size := by omega
    have d0 := (hb2.cell (p := ⟨w.heap.size, 0, none⟩) hlt1).trans c0
    have d1 := (hb2.cell (p := ⟨w.heap.size, 1, none⟩) hlt1).trans c1
    have hz2 := hb2.size
    have H2 := hide hh2
    have B2 : Hid (Below w.heap.size w w2) := hide ((unhide B1).trans (hb2.mono (by omega)))
    clear hb2 hh2 c0 c1
    go_wp2_with fail
    refine (heapPush_any f z (unhide H2) (ris_heap (unhide HQ).ris) (by omega) hbx hz2).mono ?_
    rintro e w3 ⟨rfl, v3, hs, hh3, hto3, hpe3, hb3⟩
    have hz3 := hb3.size
    have hsl : hs.length = ps.length + 1 := by have := hpe3.length_eq; simpa using this
    have H3 := hide hh3
    have T3 := hide hto3
    have P3 := hide hpe3
    have B3 : Hid (Below w.heap.size w w3) := hide ((unhide B2).trans (hb3.mono (by omega)))
    clear hb3 hh3 hto3 hpe3 d0 d1
    go_wp2_with fail
    refine (emptied_any (unhide H3) (unhide T3) (by omega) hbx (by omega)).mono ?_
    rintro e w4 ⟨v4, qs, rfl, hi4, hris4, hpe4, hb4⟩
    obtain rfl : qs = putV ps (f, z) := sorted_put (unhide HQ) hris4 (hpe4.trans (unhide P3))
    have hz4 := hb4.size
    obtain ⟨a4, cap4, rfl⟩ := hi4.shape
    have H4 := hide hi4
    have B4 : Hid (Below w.heap.size w w4) := hide ((unhide B3).trans (hb4.mono (by omega)))
    clear hi4 hris4 hpe4 hb4 H2 H3 T3 P3
    go_wp2_with fail
    refine (implQueueOk_any (unhide H4).paces).mono ?_
    cases hq2 : queueB (putV ps (f, z))
    · rintro e w5 ⟨rfl, hb5⟩
      have B5 : Hid (Below w.heap.size w w5) := hide ((unhide B4).trans (hb5.mono (by omega)))
      clear hb5
      go_wp2_with fail
      refine (copyOf_any ((unhide Hv).below (unhide B5)) (by omega)).mono ?_
      rintro e w6 ⟨v6, rfl, hi6, hb6⟩
      obtain ⟨a6, cap6, rfl⟩ := hi6.shape
      have H6 := hide hi6
      have B6 : Hid (Below w.heap.size w w6) := hide ((unhide B5).trans (hb6.mono (unhide B5).size))
      clear hi6 hb6
      go_wp2_with fail
      go_ret2
      rw [queuedV_stays hq hq2]
      exact ⟨⟨_, rfl, (unhide H6).mono (unhide B5).size⟩, unhide B6⟩
    · rintro e w5 ⟨rfl, hb5⟩
      have H5 := hide ((unhide H4).later hb5)
      have B5 : Hid (Below w.heap.size w w5) := hide ((unhide B4).trans (hb5.mono (by omega)))
      clear hb5
      go_wp2_with fail
      go_ret2
      rw [queuedV_yes hq hq2]
      exact ⟨⟨_, rfl, (unhide H5).mono (by omega)⟩, unhide B5⟩

end Go.Proofs.YthbbahagpmdooaaGreatDoor

/- A smithy that a call holds in a box of its own: what is known of it, said once. Condition: the smithy can be read. -/
namespace Go.Proofs.YthbbahagpmdooaaGreatDoor
open Go.ChangeShapes Go.WideShapes Go.ChangeAt Go.RowKit Go.Sort
set_option linter.unusedVariables false

/-- The box R holds the smithy's five slices and its clock, they read as m, and nothing that was there ahead of the call has changed. -/
structure Bx (w W : World) (R : Nat) (a0 : Option Addr) (p0 : Nat) (a1 : Option Addr) (p1 : Nat) (a2 : Option Addr) (p2 : Nat) (a3 : Option Addr) (p3 : Nat) (a4 : Option Addr) (p4 : Nat) (m : SmyV) : Prop where
  smy : Smy W (.slice a0 m.rooms.length p0) (.slice a1 m.guilds.length p1) (.slice a2 m.smiths.length p2) (.slice a3 m.desks.length p3) (.slice a4 m.paces.length p4) m
  blk : Blk W R 32 #[.slice a0 m.rooms.length p0, .slice a1 m.guilds.length p1, .slice a2 m.smiths.length p2, .slice a3 m.desks.length p3, .slice a4 m.paces.length p4, .int .i64 m.now]
  bb : Below w.heap.size w W
section
variable {w W X : World} {R : Nat} {a0 a1 a2 a3 a4 : Option Addr} {p0 p1 p2 p3 p4 : Nat} {m : SmyV}
theorem Bx.next (h : Bx w W R a0 p0 a1 p1 a2 p2 a3 p3 a4 p4 m) (hb : Below W.heap.size W X) : Bx w X R a0 p0 a1 p1 a2 p2 a3 p3 a4 p4 m := ⟨h.smy.below hb, h.blk.below hb h.blk.lt, h.bb.trans (hb.mono h.bb.size)⟩
theorem Bx.alloc (h : Bx w W R a0 p0 a1 p1 a2 p2 a3 p3 a4 p4 m) (o : Obj) : Bx w (W.alloc o) R a0 p0 a1 p1 a2 p2 a3 p3 a4 p4 m := h.next ((Below.refl _ _).alloc (Nat.le_refl _) _)
theorem Bx.cells (h : Bx w W R a0 p0 a1 p1 a2 p2 a3 p3 a4 p4 m) : W.cell? ⟨R, 0, none⟩ = some (.slice a0 m.rooms.length p0) ∧ W.cell? ⟨R, 1, none⟩ = some (.slice a1 m.guilds.length p1) ∧ W.cell? ⟨R, 2, none⟩ = some (.slice a2 m.smiths.length p2) ∧ W.cell? ⟨R, 3, none⟩ = some (.slice a3 m.desks.length p3) ∧ W.cell? ⟨R, 4, none⟩ = some (.slice a4 m.paces.length p4) ∧ W.cell? ⟨R, 5, none⟩ = some (.int .i64 m.now) := h.blk.c6
end
theorem Bx.new {w : World} {v0 v1 v2 v3 v4 : Value} {m : SmyV} (h : Smy w v0 v1 v2 v3 v4 m) : ∃ a0 p0 a1 p1 a2 p2 a3 p3 a4 p4, v0 = .slice a0 m.rooms.length p0 ∧ v1 = .slice a1 m.guilds.length p1 ∧ v2 = .slice a2 m.smiths.length p2 ∧ v3 = .slice a3 m.desks.length p3 ∧ v4 = .slice a4 m.paces.length p4 ∧ Bx w (w.alloc (.cells #[.slice a0 m.rooms.length p0, .slice a1 m.guilds.length p1, .slice a2 m.smiths.length p2, .slice a3 m.desks.length p3, .slice a4 m.paces.length p4, .int .i64 m.now] 32)) w.heap.size a0 p0 a1 p1 a2 p2 a3 p3 a4 p4 m := by
  obtain ⟨a0, p0, a1, p1, a2, p2, a3, p3, a4, p4, rfl, rfl, rfl, rfl, rfl, _⟩ := h.five
  exact ⟨a0, p0, a1, p1, a2, p2, a3, p3, a4, p4, rfl, rfl, rfl, rfl, rfl, h.alloc _, Blk.new _ _ _, (Below.refl _ _).alloc (Nat.le_refl _) _⟩
end Go.Proofs.YthbbahagpmdooaaGreatDoor

/- Contracts of the program's queueAt, At, wantOf, WantOf, UsedAt: each answers what the lists say. Conditions: the smithy can be read; what each theorem names. -/
namespace Go.Proofs.YthbbahagpmdooaaGreatDoor
open Go.ChangeShapes Go.WideShapes Go.ChangeAt Go.RowKit Go.Sort
set_option linter.unusedVariables false
set_option maxRecDepth 100000

theorem where_at {m : SmyV} {b : Int} {k : Nat} (hk : k < (whereTo (atB b) m.smiths m.smiths.length).length) : ∃ i : Nat, i < m.smiths.length ∧ recAt (whereTo (atB b) m.smiths m.smiths.length) k = (i : Int) := by
  obtain ⟨i, hi, e, _⟩ := (whereTo_mem (atB b) m.smiths _ m.smiths.length).1 (recAt_mem hk)
  exact ⟨i, hi, e⟩
set_option maxHeartbeats 8000000 in
theorem queueAt_any {w : World} {v0 v1 v2 v3 v4 : Value} {m : SmyV} (b : Int) (h : Smy w v0 v1 v2 v3 v4 m) (hL : Loose m) : Calls Tryz.prog 214 #[.agg #[v0, v1, v2, v3, v4, .int .i64 m.now], .int .i64 b] w fun e w' => ∃ v', e = .returned v' ∧ EntsAt w.heap.size w' v' (atV m.smiths b m.smiths.length) ∧ Below w.heap.size w w' := by
  have Hv := hide ((h.alloc (.cells #[v0, v1, v2, v3, v4, .int .i64 m.now] 32)).alloc (.cells #[] 194))
  have HV0 := hide h
  obtain ⟨a0, p0, rfl, _, _⟩ := IsRooms.shape h.rooms
  obtain ⟨a1, p1, rfl, _, _⟩ := IsRec.shape h.guilds
  obtain ⟨a2, p2, rfl, _, _⟩ := IsRec.shape h.smiths
  obtain ⟨a3, p3, rfl, _, _⟩ := IsRec.shape h.desks
  obtain ⟨a4, p4, rfl, _, _⟩ := IsRec.shape h.paces
  clear h
  have hl : m.smiths.length ≤ 1000 := by have := (few_of hL).smiths; omega
  have HL := hide hL
  clear hL
  have kb : Hid (Blk ((w.alloc (.cells #[.slice a0 m.rooms.length p0, .slice a1 m.guilds.length p1, .slice a2 m.smiths.length p2, .slice a3 m.desks.length p3, .slice a4 m.paces.length p4, .int .i64 m.now] 32)).alloc (.cells #[] 194)) w.heap.size 32 #[.slice a0 m.rooms.length p0, .slice a1 m.guilds.length p1, .slice a2 m.smiths.length p2, .slice a3 m.desks.length p3, .slice a4 m.paces.length p4, .int .i64 m.now]) := hide ((Blk.new w _ _).alloc _)
  have BB : Hid (Below w.heap.size w ((w.alloc (.cells #[.slice a0 m.rooms.length p0, .slice a1 m.guilds.length p1, .slice a2 m.smiths.length p2, .slice a3 m.desks.length p3, .slice a4 m.paces.length p4, .int .i64 m.now] 32)).alloc (.cells #[] 194))) := hide (((Below.refl _ _).alloc (Nat.le_refl _) _).alloc (by simp) _)
  have HE : Hid (EntsAt w.heap.size ((w.alloc (.cells #[.slice a0 m.rooms.length p0, .slice a1 m.guilds.length p1, .slice a2 m.smiths.length p2, .slice a3 m.desks.length p3, .slice a4 m.paces.length p4, .int .i64 m.now] 32)).alloc (.cells #[] 194)) (.slice (some ⟨w.heap.size + 1, 0, none⟩) 0 0) []) := hide (ents_empty (by simp) (by simp))
  go_enter Tryz.func214, Tryz.ntmps214
  go_upto_region 2 with fail
  generalize (w.alloc (.cells #[.slice a0 m.rooms.length p0, .slice a1 m.guilds.length p1, .slice a2 m.smiths.length p2, .slice a3 m.desks.length p3, .slice a4 m.paces.length p4, .int .i64 m.now] 32)).alloc (.cells #[] 194) = W at *
  have c0 := (unhide kb).cell (i := 0) (v := .slice a0 m.rooms.length p0) rfl
  have c1 := (unhide kb).cell (i := 1) (v := .slice a1 m.guilds.length p1) rfl
  have c2 := (unhide kb).cell (i := 2) (v := .slice a2 m.smiths.length p2) rfl
  have c3 := (unhide kb).cell (i := 3) (v := .slice a3 m.desks.length p3) rfl
  have c4 := (unhide kb).cell (i := 4) (v := .slice a4 m.paces.length p4) rfl
  have c5 := (unhide kb).cell (i := 5) (v := .int .i64 m.now) rfl
  go_wp2_with fail
  refine (whoIsAt_any b (unhide Hv) hl).mono ?_
  rintro e w1 ⟨vn, rfl, hn, hb⟩
  obtain ⟨na, nc, rfl⟩ := RecAt.shape hn
  have HN0 := hide (RecAt.mono hn (unhide BB).size)
  have Hv1 := hide ((unhide Hv).below hb)
  have kb1 := hide ((unhide kb).below hb (unhide kb).lt)
  have BB1 := hide ((unhide BB).trans (hb.mono (unhide BB).size))
  have HE1 := hide ((unhide HE).later hb)
  clear hb hn c0 c1 c2 c3 c4 c5 Hv kb BB HE
  have Hq := hide (queueOf_at m.smiths b m.smiths.length)
  have Hwh := hide (fun k hk => where_at (m := m) (b := b) (k := k) hk)
  have Hpq := hide (fun k => part_queue (unhide HL) b k)
  have hwl := whereTo_len (atB b) m.smiths m.smiths.length
  generalize whereTo (atB b) m.smiths m.smiths.length = ws at *
  go_wp2_with fail
  go_loopw [5, 13] (fun l i wr => ∃ k : Nat, k ≤ ws.length ∧ i = .int .i64 k ∧ EntsAt w.heap.size wr l (queueOf m.smiths (ws.take k)) ∧ NumsAt w.heap.size wr (.slice na ws.length nc) ws ∧ Blk wr w.heap.size 32 #[.slice a0 m.rooms.length p0, .slice a1 m.guilds.length p1, .slice a2 m.smiths.length p2, .slice a3 m.desks.length p3, .slice a4 m.paces.length p4, .int .i64 m.now] ∧ Smy wr (.slice a0 m.rooms.length p0) (.slice a1 m.guilds.length p1) (.slice a2 m.smiths.length p2) (.slice a3 m.desks.length p3) (.slice a4 m.paces.length p4) m ∧ Below w.heap.size w wr) (fun _ i _ => ws.length - (intOf i).toNat)
  case atStart => exact ⟨0, Nat.zero_le _, rfl, unhide HE1, unhide HN0, unhide kb1, unhide Hv1, unhide BB1⟩
  case round =>
    obtain ⟨k, hk, rfl, he, hn, hkb, hv, hb0⟩ := hrel
    obtain ⟨la, lc, rfl⟩ := EntsAt.shape he
    have HE := hide he
    have HN := hide hn
    have kb := hide hkb
    have Hv := hide hv
    have BB := hide hb0
    clear he hn hkb hv hb0 HE1 HN0 kb1 Hv1 BB1
    by_cases hlt : k < ws.length
    · have hlt1 : (k : Int) < (ws.length : Int) := by omega
      obtain ⟨g, hga, _, _, hcl, _⟩ := RecAt.view encNum_len (by omega) (unhide HN) rfl (by omega)
      cases hga
      have z0 := hcl k hlt 0 _ rfl
      simp only [Nat.mul_one, Nat.add_zero] at z0
      obtain ⟨i, hi, hiw⟩ := unhide Hwh k hlt
      rw [hiw] at z0
      have hi1 : (i : Int) < (m.smiths.length : Int) := by omega
      obtain ⟨_, _, hse, _, _, r2⟩ := (unhide Hv).smiths
      cases hse
      rcases r2 with e0 | ⟨sb, off, rfl, hbw, hcs⟩
      · rw [e0] at hi; simp at hi
      obtain ⟨_, _, _, _, _, _, _, d7, _⟩ := smith_cells hcs hi
      have HT : Hid (queueOf m.smiths (ws.take (k + 1)) = putV (queueOf m.smiths (ws.take k)) (hadS (recAt m.smiths i), (i : Int))) := hide (by rw [take_snoc_at hlt, queueOf_snoc, hiw]; simp)
      have hq1 := unhide Hpq k
      have hq2 := unhide Hpq (k + 1)
      rw [unhide HT] at hq2
      have HQ := hide (queuedV_yes hq1 hq2)
      clear hcl hcs hq1 hq2
      have e7 : (recAt m.smiths i).2.2.2.2.2.2.2.1 = hadS (recAt m.smiths i) := rfl
      rw [e7] at d7
      clear e7
      generalize hadS (recAt m.smiths i) = hd at *
      have c2 := (unhide kb).cell (i := 2) (v := .slice (some ⟨sb, off, none⟩) m.smiths.length p2) rfl
      go_wp2_with fail
      refine (implQueued_any hd (i : Int) (unhide HE).paces).mono ?_
      rw [unhide HQ]
      rintro e w2 ⟨⟨v', rfl, he⟩, hb⟩
      obtain ⟨ua, uc, rfl⟩ := EntsAt.shape he
      have HE2 := hide (he.mono (unhide BB).size)
      replace HN := hide (RecAt.later (unhide HN) hb)
      replace kb := hide ((unhide kb).below hb (unhide kb).lt)
      replace Hv := hide ((unhide Hv).below hb)
      replace BB := hide ((unhide BB).trans (hb.mono (unhide BB).size))
      clear hb he c2 d7 z0
      go_wp2_with fail
      go_roundw
      case rel => exact ⟨k + 1, by omega, by go_num, by rw [unhide HT]; exact unhide HE2, unhide HN, unhide kb, unhide Hv, unhide BB⟩
      case measure => simp [intOf]; omega
    · obtain rfl : k = ws.length := by omega
      have HE3 : Hid (EntsAt w.heap.size wr (.slice la (queueOf m.smiths (ws.take ws.length)).length lc) (atV m.smiths b m.smiths.length)) := hide (by
        have h9 := unhide HE
        have e9 : queueOf m.smiths (ws.take ws.length) = atV m.smiths b m.smiths.length := by rw [List.take_length, unhide Hq]
        rw [← e9]
        exact h9)
      go_wp2_with fail
      go_ret
      exact ⟨_, rfl, unhide HE3, unhide BB⟩
theorem whoB_has {m : SmyV} (who : Int) : whoB m who = (hasB m.smiths.length who && !((recAt m.smiths who.toNat).1 == 0)) := by unfold whoB; rw [has_in]
set_option maxHeartbeats 4000000 in
theorem isThere_any {w : World} {v0 v1 v2 v3 v4 : Value} {m : SmyV} {who : Int} {q : Bool} (hq : whoB m who = q) (h : Smy w v0 v1 v2 v3 v4 m) : Calls Tryz.prog 132 #[.agg #[v0, v1, v2, v3, v4, .int .i64 m.now], .int .i64 who] w fun e w' => e = .returned (.bool q) ∧ Below w.heap.size w w' := by
  rw [whoB_has] at hq
  have Hq := hide hq
  clear hq
  obtain ⟨a0, p0, a1, p1, a2, p2, a3, p3, a4, p4, rfl, rfl, rfl, rfl, rfl, K⟩ := Bx.new h
  clear h
  go_enter Tryz.func132, Tryz.ntmps132
  go_wp2_with fail
  generalize w.alloc (.cells #[.slice a0 m.rooms.length p0, .slice a1 m.guilds.length p1, .slice a2 m.smiths.length p2, .slice a3 m.desks.length p3, .slice a4 m.paces.length p4, .int .i64 m.now] 32) = W at *
  obtain ⟨c0, c1, c2, c3, c4, c5⟩ := K.cells
  go_wp2_with fail
  refine (smithsOf_any _ _ _ _ _ _ _ _ _ _ _ _ _ _ _ _ _).mono ?_
  rintro e w2 ⟨rfl, hb⟩
  replace K := K.next hb
  clear hb c0 c1 c2 c3 c4 c5
  obtain ⟨qh, hqh⟩ : ∃ q, hasB m.smiths.length who = q := ⟨_, rfl⟩
  have Hh := hide hqh
  clear hqh
  go_wp2_with fail
  refine (hasSmith_any _ _ _ who _).mono ?_
  rw [unhide Hh]
  rintro e w3 ⟨rfl, h9⟩
  subst w3
  cases qh
  · obtain rfl : q = false := by rw [← unhide Hq, unhide Hh]; rfl
    go_wp2_with fail
    go_ret
    exact ⟨rfl, K.bb⟩
  have hwb : 0 ≤ who ∧ who < (m.smiths.length : Int) := by have := unhide Hh; unfold hasB at this; simpa using this
  obtain ⟨k, rfl⟩ : ∃ k : Nat, who = k := ⟨who.toNat, by omega⟩
  have hk : k < m.smiths.length := by omega
  have hk1 : (k : Int) < (m.smiths.length : Int) := by omega
  obtain ⟨_, _, hse, _, _, r2⟩ := K.smy.smiths
  cases hse
  rcases r2 with e0 | ⟨sb, off, rfl, hbw, hcl⟩
  · rw [e0] at hk; simp at hk
  obtain ⟨d0, d1, d2, d3, d4, d5, d6, d7, d8, d9, d10⟩ := smith_cells hcl hk
  obtain ⟨_, _, c2, _, _, _⟩ := K.cells
  have HS : Hid (q = !((recAt m.smiths k).1 == 0)) := hide (by rw [← unhide Hq, unhide Hh, Int.toNat_natCast]; rfl)
  clear hcl
  generalize recAt m.smiths k = ss at *
  obtain ⟨st, be, rk, my, gu, lo, hi, hd, ca, ut, wk⟩ := ss
  simp only at d0 d1 d2 d3 d4 d5 d6 d7 d8 d9 d10
  go_wp2_with fail
  refine (isGone_any st be rk my gu lo hi hd ca ut wk _).mono ?_
  rintro e w4 ⟨rfl, hb⟩
  replace K := K.next hb
  clear hb c2 d0 d1 d2 d3 d4 d5 d6 d7 d8 d9 d10
  obtain rfl : q = !(st == 0) := unhide HS
  go_wp2_with fail
  go_ret
  exact ⟨rfl, K.bb⟩
end Go.Proofs.YthbbahagpmdooaaGreatDoor

/- A hall copied by the program, and a new smithy: lists, and the contract of copyOfHall. Condition: the hall can be read. -/
namespace Go.Proofs.YthbbahagpmdooaaGreatDoor
open Go.ChangeShapes Go.WideShapes Go.ChangeAt Go.RowKit Go.Sort
set_option linter.unusedVariables false
set_option linter.unusedSimpArgs false
set_option maxRecDepth 100000

theorem own_hall_empty {B g : Nat} {w : World} (hg : g = w.heap.size) (hB : B ≤ g) : OwnHall B (w.alloc (.cells #[] 130)) (.slice (some ⟨g, 0, none⟩) 0 0) [] := by
  subst hg
  exact ⟨⟨by simp [rcells], .inr ⟨_, 0, #[], rfl, hB, heap_alloc_new w _, Nat.le_refl _, Nat.zero_le _, by simp, by simp [rcells]⟩⟩, fun _ h => (by cases h), fun _ h => (by cases h), List.Pairwise.nil⟩

set_option maxHeartbeats 1000000 in
theorem copied_any {w : World} {v : Value} {ps : List PaceV} (h : IsPaces w v ps) (hl : ps.length ≤ 1000) : Calls Tryz.prog 213 #[v] w fun e w' => ∃ v', e = .returned v' ∧ PacesAt w.heap.size w' v' ps ∧ Below w.heap.size w w' := by
  have HR := hide (IsPaces.rec (h.below ((Below.refl _ _).alloc (Nat.le_refl _) (.cells #[] 132))))
  obtain ⟨a, cap, rfl, hc, hm, hr⟩ := h
  clear hr
  go_enter Tryz.func213, Tryz.ntmps213
  go_wp2_with (at_builtin; refine wpList_append_recs tyPace rfl (.tmp 3) (.tmp 4) 235 Tryz.underlying235 rfl w.heap.size _ _ [] ps rfl rfl (recs_empty rfl (Nat.le_refl _)) (unhide HR) (by simp; omega) (by simp) ?_; intro u9 w9 hp9 hg9 hat9; rw [List.nil_append] at hp9; have HP9 := hide hp9; have HG9 := hide hg9; clear hp9 hg9 hat9)
  have hb9 : Below w.heap.size w w9 := ((Below.refl _ _).alloc (Nat.le_refl _) _).trans ((Below.refl _ _).grown (unhide HG9) (by simp) (fun i e => by cases e; exact Nat.le_refl _))
  go_wp2_with fail
  go_ret
  exact ⟨_, rfl, unhide HP9, hb9⟩

set_option maxHeartbeats 8000000 in
theorem copyOfHall_any {w : World} {v : Value} {rs : List RoomV} (h : IsRooms w v rs) (hl : rs.length ≤ 1000) (hp : ∀ r ∈ rs, r.2.length ≤ 1000) :
    Calls Tryz.prog 159 #[.agg #[v]] w fun e w' => ∃ v' qs, e = .returned (.agg #[v']) ∧ qs.map (·.1) = rs ∧ OwnHall w.heap.size w' v' qs ∧ Below w.heap.size w w' := by
  obtain ⟨a, cap, rfl, hc, hm, hr⟩ := h
  have Hr := hide hr
  have HP := hide hp
  clear hr hp
  go_enter Tryz.func159, Tryz.ntmps159
  go_wp2_with fail
  go_loopw [3, 10] (fun u i wr => ∃ (k : Nat) (qs : List (RoomV × Value)) (ua : Option Addr) (uc : Nat), k ≤ rs.length ∧ i = .int .i64 k ∧ u = .slice ua k uc ∧ Blk wr (w.heap.size + 1) 26 #[.slice none 0 0] ∧ OwnHall (w.heap.size + 2) wr (.slice ua k uc) qs ∧ qs.map (·.1) = rs.take k ∧ Below w.heap.size w wr) (fun _ i _ => rs.length - (intOf i).toNat)
  case atStart =>
    refine ⟨0, [], _, _, Nat.zero_le _, rfl, rfl, ?_, own_hall_empty (by simp) (by simp), rfl, (((Below.refl _ _).alloc (Nat.le_refl _) _).alloc (by simp) _).alloc (by simp; omega) _⟩
    have k := Blk.new (w.alloc (.cells #[.slice a rs.length cap] 26)) 26 #[.slice none 0 0]
    rw [World.size_alloc] at k
    exact k.alloc _
  case round =>
    obtain ⟨k, qs, ua, uc, hk, rfl, rfl, kr, ho, hq, hb⟩ := hrel
    have hql : qs.length = k := by have := congrArg List.length hq; simp at this; omega
    have Hql := hide hql
    clear hql
    have Kr := hide kr
    have Ho := hide ho
    have Hq := hide hq
    have Hb := hide hb
    have hsz := kr.lt
    by_cases hlt : k < rs.length
    · have hlt1 : (k : Int) < (rs.length : Int) := by omega
      rcases unhide Hr with e0 | ⟨b, off, rfl, hbw, hcl⟩
      · rw [e0] at hlt; simp at hlt
      obtain ⟨c0, pv, c1, hpv⟩ := hcl k hlt
      rw [← hb.cell (p := ⟨b, off + k * 2, none⟩) hbw] at c0
      rw [← hb.cell (p := ⟨b, off + k * 2 + 1, none⟩) hbw] at c1
      have Hpv := hide (hpv.below (hb.mono (Nat.le_refl _)))
      have hpl := unhide HP (roomAt rs k) (by unfold roomAt; simp [List.getD, hlt])
      have Htk : Hid (rs.take (k + 1) = rs.take k ++ [roomAt rs k]) := hide (by rw [List.take_succ_eq_append_getElem hlt]; unfold roomAt; simp [List.getD, hlt])
      generalize roomAt rs k = r at *
      obtain ⟨n, ps⟩ := r
      simp only at c0 hpl hpv
      obtain ⟨pa, pc, rfl, _, _, _⟩ := hpv
      have hbw' : b < wr.heap.size := by have := hb.size; omega
      clear hcl kr ho hq hb
      go_wp2_with fail
      clear c0 c1
      have hba : Below wr.heap.size wr (wr.alloc (.cells #[.int .i64 n, .slice pa ps.length pc] 130)) := (Below.refl _ _).alloc (Nat.le_refl _) _
      have KB : Hid (Blk (wr.alloc (.cells #[.int .i64 n, .slice pa ps.length pc] 130)) wr.heap.size 130 #[.int .i64 n, .slice pa ps.length pc]) := hide (Blk.new wr _ _)
      replace Kr := hide ((unhide Kr).below hba (unhide Kr).lt)
      have HLB : Hid (∀ i, (Value.slice ua k uc).ownBlock = some i → i < wr.heap.size) := hide (fun i e => ((unhide Ho).lt (.inl e)).2)
      replace Ho := hide ((unhide Ho).later hba)
      replace Hb := hide ((unhide Hb).trans (hba.mono (unhide Hb).size))
      replace Hpv := hide ((unhide Hpv).below hba)
      have hsz2 : w.heap.size + 2 ≤ (wr.alloc (.cells #[.int .i64 n, .slice pa ps.length pc] 130)).heap.size := by have := (unhide Kr).lt; simp at this ⊢; omega
      clear hba
      generalize wr.alloc (.cells #[.int .i64 n, .slice pa ps.length pc] 130) = X at *
      generalize wr.heap.size = rb at *
      have s0 := (unhide KB).cell (i := 0) (v := .int .i64 n) rfl
      have s1 := (unhide KB).cell (i := 1) (v := .slice pa ps.length pc) rfl
      refine wp_region_last (S := fun w' => w'.cell? ⟨rb, 0, none⟩ = some (.int .i64 n) ∧ w'.cell? ⟨rb, 1, none⟩ = some (.slice pa ps.length pc)) (by kernel_rfl) (List.cons_ne_nil _ _) (by kernel_rfl) ⟨s0, s1⟩ (fun hHeld => ?_)
      simp only [List.dropLast_cons_cons, List.dropLast_singleton, List.length_cons, List.length_nil, Nat.zero_add, Nat.reduceAdd]
      (refine wpAnyH_take (i := 0) (v := ?_) rfl (by kernel_rfl) (by kernel_rfl) (by kernel_rfl) (fun _ _ _ h => h) (Or.inl ⟨by rfl, ?_⟩) (by assumption) ?_; rotate_left; (intro W9 hSw; (try dsimp only at hSw); go_simp; (try with_reducible rfl)); (try simp only [Act.put, List.setIfInBounds_toArray, List.set_cons_zero, List.set_cons_succ]))
      (refine wpAnyH_take (i := 1) (v := ?_) rfl (by kernel_rfl) (by kernel_rfl) (by kernel_rfl) (fun _ _ _ h => h) (Or.inl ⟨by rfl, ?_⟩) (by assumption) ?_; rotate_left; (intro W9 hSw; (try dsimp only at hSw); go_simp; (try with_reducible rfl)); (try simp only [Act.put, List.setIfInBounds_toArray, List.set_cons_zero, List.set_cons_succ]))
      (refine wpAnyH_take (i := 2) (v := ?_) rfl (by kernel_rfl) (by kernel_rfl) (by kernel_rfl) (fun _ _ _ h => h) (Or.inl ⟨by rfl, ?_⟩) (by assumption) ?_; rotate_left; (intro W9 hSw; (try dsimp only at hSw); go_simp; (try with_reducible rfl)); (try simp only [Act.put, List.setIfInBounds_toArray, List.set_cons_zero, List.set_cons_succ]))
      (refine wpAnyH_take (i := 3) (v := ?_) rfl (by kernel_rfl) (by kernel_rfl) (by kernel_rfl) (fun _ _ _ h => h) (Or.inl ⟨by rfl, ?_⟩) (by assumption) ?_; rotate_left; (intro W9 hSw; (try dsimp only at hSw); go_simp; (try with_reducible rfl)); (try simp only [Act.put, List.setIfInBounds_toArray, List.set_cons_zero, List.set_cons_succ]))
      (refine wpAnyH_take (i := 4) (v := ?_) rfl (by kernel_rfl) (by kernel_rfl) (by kernel_rfl) (fun _ _ _ h => h) (Or.inl ⟨by rfl, ?_⟩) (by assumption) ?_; rotate_left; (intro W9 hSw; (try dsimp only at hSw); go_simp; (try with_reducible rfl)); (try simp only [Act.put, List.setIfInBounds_toArray, List.set_cons_zero, List.set_cons_succ]))
      refine wpAnyH_ready (rs := [5]) (by kernel_rfl) (by simp) ?_
      refine AllReadyH.cons rfl (fun K hK => ?_) AllReadyH.nil
      go_simp
      refine (copied_any ((unhide Hpv).below (Below.refl _ _).drew) hpl).mono ?_
      rintro e9 w4 ⟨v4, rfl, hp4, hb4⟩
      obtain ⟨pa4, pc4, rfl⟩ := PacesAt.shape hp4
      have X4 : Below X.heap.size X w4 := (Below.refl X.heap.size X).drew.trans hb4
      have HO4 : Hid (PacesAt X.heap.size w4 (.slice pa4 ps.length pc4) ps) := hide hp4
      have HX4 := hide X4
      have hz4 := X4.size
      have t0 := (X4.cell (p := ⟨rb, 0, none⟩) (unhide KB).lt).trans s0
      have t1 := (X4.cell (p := ⟨rb, 1, none⟩) (unhide KB).lt).trans s1
      clear hp4 hb4 X4
      refine hK.out _ _ ⟨t0, t1⟩ (fun hHeld => ?_)
      clear hK K
      (try simp only [Act.put, List.setIfInBounds_toArray, List.set_cons_zero, List.set_cons_succ])
      (refine wpAnyH_take (i := 6) (v := ?_) rfl (by kernel_rfl) (by kernel_rfl) (by kernel_rfl) (fun _ _ _ h => h) (Or.inl ⟨by rfl, ?_⟩) (by assumption) ?_; rotate_left; (intro W9 hSw; (try dsimp only at hSw); go_simp; (try with_reducible rfl)); (try simp only [Act.put, List.setIfInBounds_toArray, List.set_cons_zero, List.set_cons_succ]))
      have KB5 := ((unhide KB).below (unhide HX4) (unhide KB).lt).alloc (.cells #[.int .i64 n, .slice pa4 ps.length pc4] 130)
      have u0 := KB5.cell (i := 0) (v := .int .i64 n) rfl
      have u1 := KB5.cell (i := 1) (v := .slice pa ps.length pc) rfl
      refine wpAnyH_ready (rs := [7]) (by kernel_rfl) (by simp) ?_
      refine AllReadyH.cons rfl (fun K hK => ?_) AllReadyH.nil
      go_simp
      refine hK.out _ _ ⟨u0, u1⟩ (fun hHeld => ?_)
      clear hK K
      (try simp only [Act.put, List.setIfInBounds_toArray, List.set_cons_zero, List.set_cons_succ])
      obtain ⟨v5, w5, hrun5, hown5, hg5, hat5⟩ := run_append_room (w := w4.alloc (.cells #[.int .i64 n, .slice pa4 ps.length pc4] 130)) (t := 24) (ty := 24) (base := w.heap.size + 2) (v := .slice ua k uc) (n := k) (xs := rcells qs) Tryz.underlying24 (World.ownsRow.alloc (by have h9 := ((unhide Ho).later (unhide HX4)).row; rw [unhide Hql] at h9; exact h9) _) (g := w4.heap.size) (c := 1) (cell_new w4 (i := 0) rfl) (cell_new w4 (i := 1) rfl) rfl (by omega) (by simp; omega)
      obtain ⟨a5, c5, rfl⟩ := own_shape hown5
      have hn5 : ∀ i, (Value.slice ua k uc).ownBlock = some i → w.heap.size + 2 ≤ i ∧ i < X.heap.size := fun i e => (unhide Ho).lt (.inl e)
      have hrbX := (unhide KB).lt
      have RB : Hid (∀ i, (Value.slice ua k uc).ownBlock = some i → i ≠ rb) := hide (fun i e e2 => by have := unhide HLB i e; omega)
      have KB6 := KB5.same (w' := w5) (hg5.block _ KB5.lt (fun e => unhide RB _ e.symm rfl))
      have y0 := KB6.cell (i := 0) (v := .int .i64 n) rfl
      have y1 := KB6.cell (i := 1) (v := .slice pa ps.length pc) rfl
      have HO5 := hide hown5
      have HG5 := hide hg5
      have HA5 := hide hat5
      have R5 := hide hrun5
      have X5 : Hid (Below (w.heap.size + 2) X w5) := hide (by
        have q1 : Below X.heap.size X w4 := unhide HX4
        have q2 : Below w4.heap.size w4 (w4.alloc (.cells #[.int .i64 n, .slice pa4 ps.length pc4] 130)) := (Below.refl _ _).alloc (Nat.le_refl _) _
        have q3 : Below (w.heap.size + 2) (w4.alloc (.cells #[.int .i64 n, .slice pa4 ps.length pc4] 130)) w5 := (Below.refl _ _).grown (unhide HG5) (by have := q1.size; simp; omega) (fun i e => ((unhide Ho).lt (.inl e)).1)
        exact ((q1.mono (by omega)).trans (q2.mono (by have := q1.size; omega))).trans q3)
      have hp5 : OwnHall (w.heap.size + 2) w5 (.slice a5 (k + 1) c5) (qs ++ [((n, ps), .slice pa4 ps.length pc4)]) := by
        have q1 : OwnHall (w.heap.size + 2) w4 (.slice ua k uc) qs := (unhide Ho).later (unhide HX4)
        have q2 : PacesAt X.heap.size w4 (.slice pa4 ps.length pc4) ps := unhide HO4
        have q3 : PacesAt (w.heap.size + 2) w4 (.slice pa4 ps.length pc4) ps := q2.mono (by omega)
        refine OwnHall.push (w := w4) (w1 := w5) (v := .slice ua k uc) (o := .cells #[.int .i64 n, .slice pa4 ps.length pc4] 130) q1 q3 ?_ ?_ ?_ (unhide HG5) (unhide HA5)
        · intro b' e e'
          have h8 := (q2.lt e).1
          have h9 := ((unhide Ho).lt (.inl e')).2
          omega
        · intro q hq' b' e e'
          have h8 := (q2.lt e').1
          have h9 := ((unhide Ho).lt (.inr ⟨q, hq', e⟩)).2
          omega
        · rw [unhide Hql]; exact unhide HO5
      have HP5 := hide hp5
      clear hp5 hown5 hg5 hat5 hrun5 KB5 KB6
      refine wpAnyH_ready (rs := [8]) (by kernel_rfl) (by simp) ?_
      refine AllReadyH.cons rfl (fun K hK => ?_) AllReadyH.nil
      refine step_append_run rfl (.tmp 14) (.tmp 21) 24 rfl rfl rfl (unhide R5) ?_
      refine hK.out _ _ ⟨y0, y1⟩ (fun hHeld => ?_)
      clear hK K
      (try simp only [Act.put, List.setIfInBounds_toArray, List.set_cons_zero, List.set_cons_succ])
      refine wpAnyH_done (by kernel_rfl) ?_ _
      refine tailQ_run rfl rfl ?_
      go_simp
      clear hHeld
      go_wp2_with fail
      go_roundw
      case rel =>
        exact ⟨k + 1, qs ++ [((n, ps), .slice pa4 ps.length pc4)], a5, c5, by omega, by go_num, rfl, (unhide Kr).below (unhide X5) (by omega), unhide HP5, by rw [List.map_append, unhide Hq, unhide Htk]; rfl, (unhide Hb).trans ((unhide X5).mono (by omega))⟩
      case measure => simp [intOf]; omega
    · obtain rfl : k = rs.length := by omega
      have r0 := kr.cell (i := 0) rfl
      have r1 := kr.free 0
      go_wp2_with fail
      rw [List.take_length] at hq
      refine bodyPost_ret (v := .agg #[.slice ua rs.length uc]) (by simp [results, Tryz.results159, go_sem, *]) rfl ⟨_, qs, rfl, hq, ?_, ?_⟩
      · exact (ho.same fun i h0 hi => heap_setCell_other _ _ _ _ (by show i ≠ w.heap.size + 1; omega)).mono (by omega)
      · exact hb.setCell (by show _ ≤ w.heap.size + 1; omega) _

end Go.Proofs.YthbbahagpmdooaaGreatDoor

