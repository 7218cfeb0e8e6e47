/- What the proof rests on, part 12: lists and numbers, how they lie in memory, and contracts of the calls. No condition but those that a theorem names. -/
import Derived.Test.YtnponpamjddpjabGreatXc01
import Derived.Test.YtnponpamjddpjabGreatXc02
import Derived.Test.YtnponpamjddpjabGreatXc03
import Derived.Test.YtnponpamjddpjabGreatXc04
import Derived.Test.YtnponpamjddpjabGreatXc05
import Derived.Test.YtnponpamjddpjabGreatXc06
import Derived.Test.YtnponpamjddpjabGreatXc07
import Derived.Test.YtnponpamjddpjabGreatXc08
import Derived.Test.YtnponpamjddpjabGreatXc09
import Derived.Test.YtnponpamjddpjabGreatXc10
import Derived.Test.YtnponpamjddpjabGreatXc11
import Derived.Deep.DeepCutAuto
import Derived.Deep.RegionWith
import Derived.Lib.SmallJoins
import Derived.Deep.SlicePairs
import Derived.WalkMore
import Derived.Below
import Derived.ChangeKeysEq
import Derived.Laws.StructEq
import Derived.WalkKit
import Derived.ProofKit
import Derived.OpenShut
import Derived.Outline
import Derived.Lib.QuietBelow
import Derived.RangeFuncCalls
import Derived.Shelf.RegionOpen
import Derived.Deep.RegionHeld3
import Derived.Deep.DrawnRows
import Derived.BigRegion
import Derived.Deep.RegionLawGrows
import Derived.Deep.LoopGhost
import Derived.Deep.QuietTactic
import Derived.BigQuiet
import Derived.Laws.OwnMore
import Derived.OwnWalk
import Derived.Maps.AppendAt
import Derived.RangeFuncNested
import Derived.RangeFuncBound
import Derived.RangeFuncLeaves
import Derived.RangeFuncBox
import Derived.Shelf.Abstract
import Derived.OwnWalkIn
import Derived.TacticsInMore
import Derived.LoopNIn
import Derived.LoopIn
import Derived.Deep.Fields
import Derived.Deep.Slices
import Derived.OrdersHeld
import Derived.Deep.RegionHeldLaw
/- What is used in a room, and what it costs: the model's l13Used, l13Coal, l13All. Conditions: the smithy can be read; it is right enough to be reckoned (Sane). -/
namespace Go.Proofs.YtnponpamjddpjabGreat
open Go.ChangeShapes Go.WideShapes Go.ChangeAt Go.RowKit Go.Sort
set_option linter.unusedVariables false

theorem usedIn_no {m : SmyV} {room : Int} {k : Nat} (h : ¬ (roomN m.rooms k : Int) = room) : usedIn m room (k + 1) = usedIn m room k := by show (if _ then _ else _) = _; rw [if_neg h]
theorem usedIn_yes {m : SmyV} {room : Int} {k : Nat} (h : (roomN m.rooms k : Int) = room) : usedIn m room (k + 1) = ((if (recAt m.desks k).1 then max (usedIn m room k).1 (usedV m k (-1)) else (usedIn m room k).1), (usedIn m room k).2 + usedV m k (-1)) := by show (if _ then _ else _) = _; rw [if_pos h]

set_option maxRecDepth 100000 in
set_option maxHeartbeats 8000000 in
theorem l13Used_any {w : World} {v0 v1 v2 v3 v4 : Value} {m : SmyV} (room : Int) (h : Smy w v0 v1 v2 v3 v4 m) (hS : Sane m) :
    Calls Tryz.prog 25 #[.agg #[v0, v1, v2, v3, v4, .int .i64 m.now], .int .i64 room] w fun e w' => e = .returned (.tuple #[.int .i64 (usedIn m room m.desks.length).1, .int .i64 (usedIn m room m.desks.length).2]) ∧ Below w.heap.size w w' := by
  have Hv := hide (h.alloc (.cells #[v0, v1, v2, v3, v4, .int .i64 m.now] 40))
  obtain ⟨a0, p0, rfl, _, _⟩ := IsRooms.shape h.rooms
  obtain ⟨a1, p1, rfl, _, _⟩ := IsRec.shape h.guilds
  obtain ⟨a2, p2, rfl, _, _⟩ := IsRec.shape h.smiths
  obtain ⟨a3, p3, rfl, _, _⟩ := IsRec.shape h.desks
  obtain ⟨a4, p4, rfl, _, _⟩ := IsRec.shape h.paces
  clear h
  have HS := hide hS
  have kb0 : Hid (Blk (w.alloc (.cells #[.slice a0 m.rooms.length p0, .slice a1 m.guilds.length p1, .slice a2 m.smiths.length p2, .slice a3 m.desks.length p3, .slice a4 m.paces.length p4, .int .i64 m.now] 40)) w.heap.size 40 #[.slice a0 m.rooms.length p0, .slice a1 m.guilds.length p1, .slice a2 m.smiths.length p2, .slice a3 m.desks.length p3, .slice a4 m.paces.length p4, .int .i64 m.now]) := hide (Blk.new w _ _)
  have BB0 : Hid (Below w.heap.size w (w.alloc (.cells #[.slice a0 m.rooms.length p0, .slice a1 m.guilds.length p1, .slice a2 m.smiths.length p2, .slice a3 m.desks.length p3, .slice a4 m.paces.length p4, .int .i64 m.now] 40))) := hide ((Below.refl _ _).alloc (Nat.le_refl _) _)
  have h8 := hS.eight
  have hbd := usedIn_bd m room hS.few
  have Hbd := hide hbd
  clear hS hbd
  go_enter Tryz.func25, Tryz.ntmps25
  go_wp2_with fail
  go_loopw [6, 7, 8] (fun mo al i wr => ∃ k : Nat, k ≤ m.desks.length ∧ i = .int .i64 k ∧ mo = .int .i64 (usedIn m room k).1 ∧ al = .int .i64 (usedIn m room k).2 ∧ Blk wr w.heap.size 40 #[.slice a0 m.rooms.length p0, .slice a1 m.guilds.length p1, .slice a2 m.smiths.length p2, .slice a3 m.desks.length p3, .slice a4 m.paces.length p4, .int .i64 m.now] ∧ Smy wr (.slice a0 m.rooms.length p0) (.slice a1 m.guilds.length p1) (.slice a2 m.smiths.length p2) (.slice a3 m.desks.length p3) (.slice a4 m.paces.length p4) m ∧ Below w.heap.size w wr) (fun _ _ i _ => m.desks.length - (intOf i).toNat)
  case atStart => exact ⟨0, Nat.zero_le _, rfl, rfl, rfl, unhide kb0, unhide Hv, unhide BB0⟩
  case round =>
    obtain ⟨k, hk, rfl, rfl, rfl, hkb, hv, hb0⟩ := hrel
    obtain ⟨⟨u0, u1⟩, u2, u3⟩ := unhide Hbd k
    have kb := hide hkb
    have Hv1 := hide hv
    have BB := hide hb0
    clear hkb hv hb0 kb0 BB0 Hv
    have c0 := (unhide kb).cell (i := 0) (v := .slice a0 m.rooms.length p0) rfl
    have c1 := (unhide kb).cell (i := 1) (v := .slice a1 m.guilds.length p1) rfl
    have c2 := (unhide kb).cell (i := 2) (v := .slice a2 m.smiths.length p2) rfl
    have c3 := (unhide kb).cell (i := 3) (v := .slice a3 m.desks.length p3) rfl
    have c4 := (unhide kb).cell (i := 4) (v := .slice a4 m.paces.length p4) rfl
    have c5 := (unhide kb).cell (i := 5) (v := .int .i64 m.now) rfl
    by_cases hlt : k < m.desks.length
    · have hlt1 : (k : Int) < (m.desks.length : Int) := by omega
      have Hno := hide (fun hh => usedIn_no (m := m) (room := room) (k := k) hh)
      have Hyes := hide (fun hh => usedIn_yes (m := m) (room := room) (k := k) hh)
      obtain ⟨⟨mo, al⟩, hmo⟩ : ∃ x, usedIn m room k = x := ⟨_, rfl⟩
      rw [hmo] at u0 u1 u2 u3 Hno Hyes ⊢
      simp only at u0 u1 u2 u3 Hyes ⊢
      clear hmo
      go_wp2_with fail
      refine (l4Room_any (k : Int) (unhide Hv1).rooms ((unhide HS).bench hlt)).mono ?_
      rintro e w1 ⟨rfl, hb⟩
      replace kb := hide ((unhide kb).below hb (unhide kb).lt)
      replace Hv1 := hide ((unhide Hv1).below hb)
      replace BB := hide ((unhide BB).trans (hb.mono (unhide BB).size))
      clear hb c0 c1 c2 c3 c4 c5
      obtain ⟨rn, hrn⟩ : ∃ r : Int, (roomN m.rooms k : Int) = r := ⟨_, rfl⟩
      rw [hrn] at Hno Hyes ⊢
      clear hrn
      by_cases hr : rn = room
      rotate_left
      · have hrb : (rn == room) = false := by simpa using hr
        go_wp2_with fail
        go_roundw
        case rel => exact ⟨k + 1, by omega, by go_num, by rw [unhide Hno hr], by rw [unhide Hno hr], unhide kb, unhide Hv1, unhide BB⟩
        case measure => simp [intOf]; omega
      have hrb : (rn == room) = true := by simpa using hr
      have c0 := (unhide kb).cell (i := 0) (v := .slice a0 m.rooms.length p0) rfl
      have c1 := (unhide kb).cell (i := 1) (v := .slice a1 m.guilds.length p1) rfl
      have c2 := (unhide kb).cell (i := 2) (v := .slice a2 m.smiths.length p2) rfl
      have c3 := (unhide kb).cell (i := 3) (v := .slice a3 m.desks.length p3) rfl
      have c4 := (unhide kb).cell (i := 4) (v := .slice a4 m.paces.length p4) rfl
      have c5 := (unhide kb).cell (i := 5) (v := .int .i64 m.now) rfl
      go_wp2_with fail
      refine (l11Used_any (k : Int) (-1) (unhide Hv1) (unhide HS).guilded (by have := (unhide HS).few; omega)).mono ?_
      rintro e w2 ⟨rfl, hb⟩
      replace kb := hide ((unhide kb).below hb (unhide kb).lt)
      replace Hv1 := hide ((unhide Hv1).below hb)
      replace BB := hide ((unhide BB).trans (hb.mono (unhide BB).size))
      clear hb c0 c1 c2 c3 c4 c5
      have hub := usedV_bd m (k : Int) (-1)
      have hfew := (unhide HS).few
      have hy := unhide Hyes hr
      generalize usedV m (k : Int) (-1) = us at *
      obtain ⟨_, _, hde, _, _, r3⟩ := (unhide Hv1).desks
      cases hde
      rcases r3 with e0 | ⟨db, off, rfl, hbw, hcl⟩
      · rw [e0] at hlt; simp at hlt
      obtain ⟨d0, _, _⟩ := desk_cells hcl hlt
      clear hcl
      obtain ⟨op, hop⟩ : ∃ o, (recAt m.desks k).1 = o := ⟨_, rfl⟩
      rw [hop] at d0 hy
      have Hy := hide hy
      clear hop hy Hno Hyes
      have c3 := (unhide kb).cell (i := 3) (v := .slice (some ⟨db, off, none⟩) m.desks.length p3) rfl
      cases op
      · go_wp2_with fail
        go_roundw
        case rel => exact ⟨k + 1, by omega, by go_num, by rw [unhide Hy]; rfl, by rw [unhide Hy], unhide kb, unhide Hv1, unhide BB⟩
        case measure => simp [intOf]; omega
      · go_wp2_with (go_at_call 55; refine (l1Max_any _ _ _).mono ?_; rintro e w' ⟨rfl, h9⟩; subst w')
        go_roundw
        case rel => exact ⟨k + 1, by omega, by go_num, by rw [unhide Hy]; rfl, by rw [unhide Hy], unhide kb, unhide Hv1, unhide BB⟩
        case measure => simp [intOf]; omega
    · obtain rfl : k = m.desks.length := by omega
      go_wp2_with fail
      go_ret2
      exact ⟨rfl, unhide BB⟩

set_option maxRecDepth 100000 in
set_option maxHeartbeats 4000000 in
theorem l13Coal_any {w : World} {v0 v1 v2 v3 v4 : Value} {m : SmyV} {r : Nat} (h : Smy w v0 v1 v2 v3 v4 m) (hS : Sane m) (hr : r < m.rooms.length) :
    Calls Tryz.prog 39 #[.agg #[v0, v1, v2, v3, v4, .int .i64 m.now], .int .i64 (r : Int)] w fun e w' => e = .returned (.int .i64 (coalIn m r)) ∧ Below w.heap.size w w' := by
  have Hv := hide (h.alloc (.cells #[v0, v1, v2, v3, v4, .int .i64 m.now] 40))
  obtain ⟨a0, p0, rfl, _, _⟩ := IsRooms.shape h.rooms
  obtain ⟨a1, p1, rfl, _, _⟩ := IsRec.shape h.guilds
  obtain ⟨a2, p2, rfl, _, _⟩ := IsRec.shape h.smiths
  obtain ⟨a3, p3, rfl, _, _⟩ := IsRec.shape h.desks
  obtain ⟨a4, p4, rfl, _, _⟩ := IsRec.shape h.paces
  clear h
  have HS := hide hS
  have kb0 : Hid (Blk (w.alloc (.cells #[.slice a0 m.rooms.length p0, .slice a1 m.guilds.length p1, .slice a2 m.smiths.length p2, .slice a3 m.desks.length p3, .slice a4 m.paces.length p4, .int .i64 m.now] 40)) w.heap.size 40 #[.slice a0 m.rooms.length p0, .slice a1 m.guilds.length p1, .slice a2 m.smiths.length p2, .slice a3 m.desks.length p3, .slice a4 m.paces.length p4, .int .i64 m.now]) := hide (Blk.new w _ _)
  have BB0 : Hid (Below w.heap.size w (w.alloc (.cells #[.slice a0 m.rooms.length p0, .slice a1 m.guilds.length p1, .slice a2 m.smiths.length p2, .slice a3 m.desks.length p3, .slice a4 m.paces.length p4, .int .i64 m.now] 40))) := hide ((Below.refl _ _).alloc (Nat.le_refl _) _)
  have hr1 : (r : Int) < (m.rooms.length : Int) := by omega
  have Hc : Hid (coalIn m r = leastV (roomAt m.rooms r) (usedIn m (r : Int) m.desks.length).1 (usedIn m (r : Int) m.desks.length).2) := hide rfl
  rw [unhide Hc]
  clear Hc hS
  obtain ⟨⟨n, ps⟩, hrm⟩ : ∃ x, roomAt m.rooms r = x := ⟨_, rfl⟩
  obtain ⟨mo, hmo⟩ : ∃ x, (usedIn m (r : Int) m.desks.length).1 = x := ⟨_, rfl⟩
  obtain ⟨al, hal⟩ : ∃ x, (usedIn m (r : Int) m.desks.length).2 = x := ⟨_, rfl⟩
  rw [hrm, hmo, hal]
  have Hrm := hide hrm
  have Hmo := hide hmo
  have Hal := hide hal
  clear hrm hmo hal
  go_enter Tryz.func39, Tryz.ntmps39
  go_wp2_with fail
  have hu := l13Used_any (r : Int) (unhide Hv) (unhide HS)
  rw [unhide Hmo, unhide Hal] at hu
  refine hu.mono ?_
  clear hu
  rintro e w1 ⟨rfl, hb⟩
  have kb := hide ((unhide kb0).below hb (unhide kb0).lt)
  replace Hv := hide ((unhide Hv).below hb)
  have BB := hide ((unhide BB0).trans (hb.mono (unhide BB0).size))
  clear hb kb0 BB0
  obtain ⟨_, _, hre, _, _, r0⟩ := (unhide Hv).rooms
  cases hre
  rcases r0 with e0 | ⟨rb, off, rfl, hbw, hcl⟩
  · rw [e0] at hr; simp at hr
  obtain ⟨d0, pv, d1, hpv⟩ := hcl r hr
  rw [unhide Hrm] at d0 hpv
  simp only at d0 hpv
  have Hpv := hide hpv
  obtain ⟨pa, pc, rfl, _, _, _⟩ := hpv
  have c0 := (unhide kb).cell (i := 0) (v := .slice (some ⟨rb, off, none⟩) m.rooms.length p0) rfl
  clear hcl
  go_wp2_with fail
  refine (specLeastCoal_any n mo al (unhide Hpv)).mono ?_
  rintro e w2 ⟨rfl, hb⟩
  replace BB := hide ((unhide BB).trans (hb.mono (unhide BB).size))
  clear hb
  go_wp2_with fail
  go_ret
  exact ⟨rfl, unhide BB⟩

set_option maxRecDepth 100000 in
set_option maxHeartbeats 4000000 in
theorem l13All_any {w : World} {v0 v1 v2 v3 v4 : Value} {m : SmyV} (h : Smy w v0 v1 v2 v3 v4 m) (hS : Sane m) :
    Calls Tryz.prog 41 #[.agg #[v0, v1, v2, v3, v4, .int .i64 m.now]] w fun e w' => e = .returned (.int .i64 (coalAll m)) ∧ Below w.heap.size w w' := by
  have Hv := hide (h.alloc (.cells #[v0, v1, v2, v3, v4, .int .i64 m.now] 40))
  obtain ⟨a0, p0, rfl, _, _⟩ := IsRooms.shape h.rooms
  obtain ⟨a1, p1, rfl, _, _⟩ := IsRec.shape h.guilds
  obtain ⟨a2, p2, rfl, _, _⟩ := IsRec.shape h.smiths
  obtain ⟨a3, p3, rfl, _, _⟩ := IsRec.shape h.desks
  obtain ⟨a4, p4, rfl, _, _⟩ := IsRec.shape h.paces
  clear h
  have HS := hide hS
  have kb0 : Hid (Blk (w.alloc (.cells #[.slice a0 m.rooms.length p0, .slice a1 m.guilds.length p1, .slice a2 m.smiths.length p2, .slice a3 m.desks.length p3, .slice a4 m.paces.length p4, .int .i64 m.now] 40)) w.heap.size 40 #[.slice a0 m.rooms.length p0, .slice a1 m.guilds.length p1, .slice a2 m.smiths.length p2, .slice a3 m.desks.length p3, .slice a4 m.paces.length p4, .int .i64 m.now]) := hide (Blk.new w _ _)
  have BB0 : Hid (Below w.heap.size w (w.alloc (.cells #[.slice a0 m.rooms.length p0, .slice a1 m.guilds.length p1, .slice a2 m.smiths.length p2, .slice a3 m.desks.length p3, .slice a4 m.paces.length p4, .int .i64 m.now] 40))) := hide ((Below.refl _ _).alloc (Nat.le_refl _) _)
  have h3 := (hallB_of hS.hall).2.1
  have Hbd := hide (coalTo_bd m)
  clear hS
  go_enter Tryz.func41, Tryz.ntmps41
  go_wp2_with fail
  go_loopw [3, 4] (fun n i wr => ∃ k : Nat, k ≤ m.rooms.length ∧ i = .int .i64 k ∧ n = .int .i64 (coalTo m k) ∧ Blk wr w.heap.size 40 #[.slice a0 m.rooms.length p0, .slice a1 m.guilds.length p1, .slice a2 m.smiths.length p2, .slice a3 m.desks.length p3, .slice a4 m.paces.length p4, .int .i64 m.now] ∧ Smy wr (.slice a0 m.rooms.length p0) (.slice a1 m.guilds.length p1) (.slice a2 m.smiths.length p2) (.slice a3 m.desks.length p3) (.slice a4 m.paces.length p4) m ∧ Below w.heap.size w wr) (fun _ i _ => m.rooms.length - (intOf i).toNat)
  case atStart => exact ⟨0, Nat.zero_le _, rfl, rfl, unhide kb0, unhide Hv, unhide BB0⟩
  case round =>
    obtain ⟨k, hk, rfl, rfl, hkb, hv, hb0⟩ := hrel
    obtain ⟨u0, u1⟩ := unhide Hbd k
    obtain ⟨u2, u3⟩ := unhide Hbd (k + 1)
    have hst : coalTo m (k + 1) = coalTo m k + coalIn m k := rfl
    have kb := hide hkb
    have Hv1 := hide hv
    have BB := hide hb0
    clear hkb hv hb0 kb0 BB0 Hv
    have c0 := (unhide kb).cell (i := 0) (v := .slice a0 m.rooms.length p0) rfl
    have c1 := (unhide kb).cell (i := 1) (v := .slice a1 m.guilds.length p1) rfl
    have c2 := (unhide kb).cell (i := 2) (v := .slice a2 m.smiths.length p2) rfl
    have c3 := (unhide kb).cell (i := 3) (v := .slice a3 m.desks.length p3) rfl
    have c4 := (unhide kb).cell (i := 4) (v := .slice a4 m.paces.length p4) rfl
    have c5 := (unhide kb).cell (i := 5) (v := .int .i64 m.now) rfl
    by_cases hlt : k < m.rooms.length
    · have hlt1 : (k : Int) < (m.rooms.length : Int) := by omega
      go_wp2_with fail
      refine (l13Coal_any (unhide Hv1) (unhide HS) hlt).mono ?_
      rintro e w1 ⟨rfl, hb⟩
      replace kb := hide ((unhide kb).below hb (unhide kb).lt)
      replace Hv1 := hide ((unhide Hv1).below hb)
      replace BB := hide ((unhide BB).trans (hb.mono (unhide BB).size))
      rw [hst] at u2 u3
      have Hst := hide hst
      clear hb c0 c1 c2 c3 c4 c5 hst
      generalize coalIn m k = ci at *
      generalize coalTo m k = ct at *
      go_wp2_with fail
      go_roundw
      case rel => exact ⟨k + 1, by omega, by go_num, by rw [unhide Hst], unhide kb, unhide Hv1, unhide BB⟩
      case measure => simp [intOf]; omega
    · obtain rfl : k = m.rooms.length := by omega
      go_wp2_with fail
      go_ret
      exact ⟨rfl, unhide BB⟩

end Go.Proofs.YtnponpamjddpjabGreat

/- A smithy that the call made, written into: one number of a smith, of a desk, of the paces; and the frame that says which two blocks alone may differ. No condition but those that a theorem names. -/
namespace Go.Proofs.YtnponpamjddpjabGreat
open Go.ChangeShapes Go.WideShapes Go.ChangeAt Go.RowKit Go.Sort
set_option linter.unusedVariables false

section
variable {p q : Option Nat} {w w' w'' : World}
end

theorem OwnHall.same2 {n₀ : Nat} {w w' : World} {v : Value} {qs : List (RoomV × Value)} (h : OwnHall n₀ w v qs) (hs : ∀ k, (v.ownBlock = some k ∨ ∃ q ∈ qs, q.2.ownBlock = some k) → w'.heap[k]? = w.heap[k]?) : OwnHall n₀ w' v qs :=
  ⟨own_same h.row (fun k e => hs k (.inl e)), fun q hq => own_same (h.paces q hq) (fun k e => hs k (.inr ⟨q, hq, e⟩)), h.off, h.apart⟩

section
variable {n₀ n cap g : Nat} {w : World} {v0 v1 v2 v3 v4 : Value} {m : SmyV} {qs : List (RoomV × Value)}
/-- One number of a smith is written. -/
theorem FullSmy.putS (hf : FullSmy n₀ w v0 v1 (.slice (some ⟨g, 0, none⟩) n cap) v3 v4 m qs) (hn : n = m.smiths.length) {j i : Nat} (hj : j < m.smiths.length) (hi : i < 11) (u : Value) (x : SmithV) (hx : encSmith x = (encSmith (recAt m.smiths j)).set i u) :
    FullSmy n₀ (w.setCell ⟨g, j * 11 + i, none⟩ u) v0 v1 (.slice (some ⟨g, 0, none⟩) n cap) v3 v4 { m with smiths := m.smiths.set j x } qs := by
  have hb : (Value.slice (some ⟨g, 0, none⟩) n cap).ownBlock = some g := rfl
  have hne : ∀ k, k ≠ g → (w.setCell ⟨g, j * 11 + i, none⟩ u).heap[k]? = w.heap[k]? := fun k hk => heap_setCell_other w _ k u hk
  refine ⟨hf.hall.same2 fun k e => hne k fun e' => ?_, hf.rooms, RecAt.same hf.guilds fun k e => hne k fun e' => ?_, (RecAt.put1 encSmith_len (by omega) hf.smiths hn hj hi u x hx).1, RecAt.same hf.desks fun k e => hne k fun e' => ?_, RecAt.same hf.paces fun k e => hne k fun e' => ?_, hf.h1, hf.h2, hf.h3, hf.h4, hf.a12, hf.a13, hf.a14, hf.a23, hf.a24, hf.a34⟩
  · subst e'
    rcases e with e | ⟨q, hq, e⟩
    · exact hf.h2.1 _ hb e
    · exact hf.h2.2 q hq _ hb e
  · subst e'; exact hf.a12 _ e hb
  · subst e'; exact hf.a23 _ hb e
  · subst e'; exact hf.a24 _ hb e
end

end Go.Proofs.YtnponpamjddpjabGreat

/- Which blocks are a smithy's own, and what stays where these stay. No condition but those that a theorem names. -/
namespace Go.Proofs.YtnponpamjddpjabGreat
open Go.ChangeShapes Go.WideShapes Go.ChangeAt Go.RowKit Go.Sort
set_option linter.unusedVariables false

/-- Block k is one of the smithy's own. -/
def OwnB (v0 v1 v2 v3 v4 : Value) (qs : List (RoomV × Value)) (k : Nat) : Prop := v0.ownBlock = some k ∨ (∃ q ∈ qs, q.2.ownBlock = some k) ∨ v1.ownBlock = some k ∨ v2.ownBlock = some k ∨ v3.ownBlock = some k ∨ v4.ownBlock = some k
section
variable {n₀ : Nat} {w w' : World} {v0 v1 v2 v3 v4 : Value} {m : SmyV} {qs : List (RoomV × Value)}
theorem FullSmy.own (h : FullSmy n₀ w v0 v1 v2 v3 v4 m qs) {k : Nat} (e : OwnB v0 v1 v2 v3 v4 qs k) : n₀ ≤ k ∧ k < w.heap.size := by
  rcases e with e | e | e | e | e | e
  · exact h.hall.lt (.inl e)
  · exact h.hall.lt (.inr e)
  · exact RecAt.lt h.guilds e
  · exact RecAt.lt h.smiths e
  · exact RecAt.lt h.desks e
  · exact RecAt.lt h.paces e
end

end Go.Proofs.YtnponpamjddpjabGreat

/- What it would cost with one at a bench (l13With), and whether one may work at a bench (l14May): the model's. Conditions: the smithy can be read; what each theorem names. -/
namespace Go.Proofs.YtnponpamjddpjabGreat
open Go.ChangeShapes Go.WideShapes Go.ChangeAt Go.RowKit Go.Sort
set_option linter.unusedVariables false
set_option linter.unusedSimpArgs false

set_option maxRecDepth 100000 in
set_option maxHeartbeats 4000000 in
theorem l13With_any {w : World} {v0 v1 v2 v3 v4 : Value} {m : SmyV} {k : Nat} (b : Int) (h : Smy w v0 v1 v2 v3 v4 m) (hS : Sane m) (hp : m.paces.length ≤ 1000) (hk : k < m.smiths.length) (hs : (recAt m.smiths k).1 ≠ 0) :
    Calls Tryz.prog 45 #[.agg #[v0, v1, v2, v3, v4, .int .i64 m.now], .int .i64 (k : Int), .int .i64 b] w fun e w' => e = .returned (.int .i64 (coalWithV m (k : Int) b)) ∧ Below w.heap.size w w' := by
  have Hv := hide (h.alloc (.cells #[v0, v1, v2, v3, v4, .int .i64 m.now] 40))
  obtain ⟨a0, p0, rfl, _, _⟩ := IsRooms.shape h.rooms
  obtain ⟨a1, p1, rfl, _, _⟩ := IsRec.shape h.guilds
  obtain ⟨a2, p2, rfl, _, _⟩ := IsRec.shape h.smiths
  obtain ⟨a3, p3, rfl, _, _⟩ := IsRec.shape h.desks
  obtain ⟨a4, p4, rfl, _, _⟩ := IsRec.shape h.paces
  clear h
  have HF := hide (hS.few' hp)
  have HSW := hide (hS.with hk hs b)
  have Hc : Hid (coalWithV m (k : Int) b = coalAll (withM m (k : Int) b)) := hide rfl
  rw [unhide Hc]
  have hk1 : (k : Int) < (m.smiths.length : Int) := by omega
  clear hS hp hs Hc
  have BB0 : Hid (Below w.heap.size w (w.alloc (.cells #[.slice a0 m.rooms.length p0, .slice a1 m.guilds.length p1, .slice a2 m.smiths.length p2, .slice a3 m.desks.length p3, .slice a4 m.paces.length p4, .int .i64 m.now] 40))) := hide ((Below.refl _ _).alloc (Nat.le_refl _) _)
  go_enter Tryz.func45, Tryz.ntmps45
  go_wp2_with fail
  refine (l11Copy_any (unhide Hv) (unhide HF)).mono ?_
  rintro e w1 ⟨y0, y1, y2, y3, y4, oq, rfl, ho, hb⟩
  have k9 := ho.smy
  obtain ⟨b0, q0, rfl, _, _⟩ := IsRooms.shape k9.rooms
  obtain ⟨b1, q1, rfl, _, _⟩ := IsRec.shape k9.guilds
  obtain ⟨b2, q2, rfl, _, _⟩ := IsRec.shape k9.smiths
  obtain ⟨b3, q3, rfl, _, _⟩ := IsRec.shape k9.desks
  obtain ⟨b4, q4, rfl, _, _⟩ := IsRec.shape k9.paces
  have HO := hide (ho.mono (n₁ := w.heap.size) (by simp))
  have BB := hide ((unhide BB0).trans (hb.mono (unhide BB0).size))
  clear k9 ho hb BB0 Hv
  go_upto_region 2 with fail
  have hba : Below w1.heap.size w1 (w1.alloc (.cells #[.slice b0 m.rooms.length q0, .slice b1 m.guilds.length q1, .slice b2 m.smiths.length q2, .slice b3 m.desks.length q3, .slice b4 m.paces.length q4, .int .i64 m.now] 40)) := (Below.refl _ _).alloc (Nat.le_refl _) _
  have LO : Hid (∀ i, OwnB (.slice b0 m.rooms.length q0) (.slice b1 m.guilds.length q1) (.slice b2 m.smiths.length q2) (.slice b3 m.desks.length q3) (.slice b4 m.paces.length q4) oq i → w.heap.size ≤ i ∧ i < w1.heap.size) := hide (fun i e => (unhide HO).own e)
  replace HO := hide ((unhide HO).below hba)
  replace BB := hide ((unhide BB).trans (hba.mono (unhide BB).size))
  have ko : Hid (Blk (w1.alloc (.cells #[.slice b0 m.rooms.length q0, .slice b1 m.guilds.length q1, .slice b2 m.smiths.length q2, .slice b3 m.desks.length q3, .slice b4 m.paces.length q4, .int .i64 m.now] 40)) w1.heap.size 40 #[.slice b0 m.rooms.length q0, .slice b1 m.guilds.length q1, .slice b2 m.smiths.length q2, .slice b3 m.desks.length q3, .slice b4 m.paces.length q4, .int .i64 m.now]) := hide (Blk.new _ _ _)
  clear hba
  generalize w1.alloc (.cells #[.slice b0 m.rooms.length q0, .slice b1 m.guilds.length q1, .slice b2 m.smiths.length q2, .slice b3 m.desks.length q3, .slice b4 m.paces.length q4, .int .i64 m.now] 40) = W at *
  generalize w1.heap.size = ob at *
  obtain ⟨g2, hga, _, _, hc2, hz2⟩ := RecAt.view encSmith_len (by omega) (unhide HO).smiths rfl (by omega)
  cases hga
  have hg2o := (unhide LO g2 (.inr (.inr (.inr (.inl rfl)))))
  have s1 := hc2 k hk 1 _ rfl
  have f1 := hz2 (k * 11 + 1)
  have hp1 := (unhide HO).putS rfl (j := k) (i := 1) hk (by omega) (.int .i64 b) (((recAt m.smiths k).1, b, (recAt m.smiths k).2.2)) rfl
  have hlen : (m.smiths.set k (((recAt m.smiths k).1, b, (recAt m.smiths k).2.2))).length = m.smiths.length := by simp
  have hs1 : recAt (m.smiths.set k (((recAt m.smiths k).1, b, (recAt m.smiths k).2.2))) k = (((recAt m.smiths k).1, b, (recAt m.smiths k).2.2)) := by rw [recAt_set hk, if_pos rfl]
  have hp2 := hp1.putS hlen.symm (j := k) (i := 0) (by show k < (m.smiths.set k _).length; omega) (by omega) (.int .i64 2) (atBench (recAt m.smiths k) b) (by show encSmith (atBench (recAt m.smiths k) b) = (encSmith (recAt (m.smiths.set k (((recAt m.smiths k).1, b, (recAt m.smiths k).2.2))) k)).set 0 _; rw [hs1]; rfl)
  obtain ⟨_, hga, _, _, hc3, hz3⟩ := RecAt.view encSmith_len (by omega) hp1.smiths hlen.symm (by show 0 < (m.smiths.set k _).length; omega)
  cases hga
  have s2 := hc3 k (by show k < (m.smiths.set k _).length; omega) 0 _ rfl
  have f2 := hz3 (k * 11)
  have x2 := (unhide ko).cell (i := 2) (v := .slice (some ⟨g2, 0, none⟩) m.smiths.length q2) rfl
  have x3 := ((unhide ko).other (a := ⟨g2, k * 11 + 1, none⟩) (by show ob ≠ g2; omega) (.int .i64 b)).cell (i := 2) (v := .slice (some ⟨g2, 0, none⟩) m.smiths.length q2) rfl
  simp only [Nat.add_zero, List.set_set] at hp2 s2 f2
  have hwm : ({ m with smiths := m.smiths.set k (atBench (recAt m.smiths k) b) } : SmyV) = withM m (k : Int) b := by unfold withM; simp
  rw [hwm] at hp2
  have HP := hide hp2.smy
  clear hc2 hz2 hc3 hz3 hp1 hp2 hwm hs1 hlen HO
  go_upto_region 4 with fail
  clear s1 f1 s2 f2 x2 x3
  replace ko : Hid (Blk ((W.setCell ⟨g2, k * 11 + 1, none⟩ (.int .i64 b)).setCell ⟨g2, k * 11, none⟩ (.int .i64 2)) ob 40 #[.slice b0 m.rooms.length q0, .slice b1 m.guilds.length q1, .slice (some ⟨g2, 0, none⟩) m.smiths.length q2, .slice b3 m.desks.length q3, .slice b4 m.paces.length q4, .int .i64 m.now]) := hide (((unhide ko).other (a := ⟨g2, k * 11 + 1, none⟩) (by show ob ≠ g2; omega) _).other (a := ⟨g2, k * 11, none⟩) (by show ob ≠ g2; omega) _)
  replace BB : Hid (Below w.heap.size w ((W.setCell ⟨g2, k * 11 + 1, none⟩ (.int .i64 b)).setCell ⟨g2, k * 11, none⟩ (.int .i64 2))) := hide (((unhide BB).setCell (p := ⟨g2, k * 11 + 1, none⟩) (by show w.heap.size ≤ g2; omega) _).setCell (p := ⟨g2, k * 11, none⟩) (by show w.heap.size ≤ g2; omega) _)
  generalize (W.setCell ⟨g2, k * 11 + 1, none⟩ (.int .i64 b)).setCell ⟨g2, k * 11, none⟩ (.int .i64 2) = W3 at *
  have c0 := (unhide ko).cell (i := 0) (v := .slice b0 m.rooms.length q0) rfl
  have c1 := (unhide ko).cell (i := 1) (v := .slice b1 m.guilds.length q1) rfl
  have c2 := (unhide ko).cell (i := 2) (v := .slice (some ⟨g2, 0, none⟩) m.smiths.length q2) rfl
  have c3 := (unhide ko).cell (i := 3) (v := .slice b3 m.desks.length q3) rfl
  have c4 := (unhide ko).cell (i := 4) (v := .slice b4 m.paces.length q4) rfl
  have c5 := (unhide ko).cell (i := 5) (v := .int .i64 m.now) rfl
  go_wp2_with fail
  refine (l13All_any (m := withM m (k : Int) b) (unhide HP) (unhide HSW)).mono ?_
  rintro e w5 ⟨rfl, hb⟩
  replace BB := hide ((unhide BB).trans (hb.mono (unhide BB).size))
  clear hb
  go_wp2_with fail
  go_ret
  exact ⟨rfl, unhide BB⟩

end Go.Proofs.YtnponpamjddpjabGreat

/- What a change hands back: a smithy in memory of its own, and a code; the smithy with nothing in it; the model's l11Who. Condition: the smithy can be read. -/
namespace Go.Proofs.YtnponpamjddpjabGreat
open Go.ChangeShapes Go.WideShapes Go.ChangeAt Go.RowKit Go.Sort
set_option linter.unusedVariables false

set_option maxHeartbeats 2000000 in
theorem l11Who_q {w : World} {v0 v1 v2 v3 v4 : Value} {m : SmyV} {who : Int} {q : Bool} (hq : whoB m who = q) (h : Smy w v0 v1 v2 v3 v4 m) :
    Calls Tryz.prog 43 #[.agg #[v0, v1, v2, v3, v4, .int .i64 m.now], .int .i64 who] w fun e w' => e = .returned (.bool q) ∧ Below w.heap.size w w' := by
  subst hq
  obtain ⟨a0, p0, rfl, _, _⟩ := IsRooms.shape h.rooms
  obtain ⟨a1, p1, rfl, _, _⟩ := IsRec.shape h.guilds
  obtain ⟨a2, p2, rfl, hc2, hm2, r2⟩ := h.smiths
  obtain ⟨a3, p3, rfl, _, _⟩ := IsRec.shape h.desks
  obtain ⟨a4, p4, rfl, _, _⟩ := IsRec.shape h.paces
  clear h
  have Ba : Hid (Below w.heap.size w (w.alloc (.cells #[.slice a0 m.rooms.length p0, .slice a1 m.guilds.length p1, .slice a2 m.smiths.length p2, .slice a3 m.desks.length p3, .slice a4 m.paces.length p4, .int .i64 m.now] 40))) := hide ((Below.refl _ _).alloc (Nat.le_refl _) _)
  cases hi : inB who 0 ((m.smiths.length : Int) - 1)
  · have hw : whoB m who = false := by unfold whoB; rw [hi]; rfl
    have Hi := hide hi
    rw [hw]
    clear hi hw r2
    go_enter Tryz.func43, Tryz.ntmps43
    go_wp2_with (go_at_call 52; refine (l1In_any _ _ _ _).mono ?_; rw [unhide Hi]; rintro e w' ⟨rfl, h9⟩; subst w')
    go_ret
    exact ⟨rfl, unhide Ba⟩
  · obtain ⟨i0, i1⟩ := inB_of hi
    obtain ⟨k, rfl⟩ : ∃ k : Nat, who = k := ⟨who.toNat, by omega⟩
    have hk : k < m.smiths.length := by omega
    have hw : whoB m (k : Int) = !((recAt m.smiths k).1 == 0) := by unfold whoB; rw [hi]; simp
    rcases r2 with e0 | ⟨sb, off, rfl, hbw, hcl⟩
    · rw [e0] at hk; simp at hk
    obtain ⟨d0, _⟩ := smith_cells hcl hk
    have Hi := hide hi
    rw [hw]
    clear hi hw hcl
    have hk1 : (k : Int) < (m.smiths.length : Int) := by omega
    generalize (recAt m.smiths k).1 = st at *
    go_enter Tryz.func43, Tryz.ntmps43
    go_wp2_with (go_at_call 52; refine (l1In_any _ _ _ _).mono ?_; rw [unhide Hi]; rintro e w' ⟨rfl, h9⟩; subst w')
    go_ret
    exact ⟨rfl, unhide Ba⟩

end Go.Proofs.YtnponpamjddpjabGreat

/- Contracts of the model's NeedIn, CoalIn, CoalOf and CoalWith: each answers what the plain lists say. Condition: the smithy can be read. -/
namespace Go.Proofs.YtnponpamjddpjabGreat
open Go.ChangeShapes Go.WideShapes Go.ChangeAt Go.RowKit Go.Sort
set_option linter.unusedVariables false
set_option maxRecDepth 100000

set_option maxHeartbeats 4000000 in
theorem specNeedIn_any {w : World} {v0 v1 v2 v3 v4 : Value} {m : SmyV} {room q : Int} (hq : needInV m room = q) (h : Smy w v0 v1 v2 v3 v4 m) : Calls Tryz.prog 8 #[.agg #[v0, v1, v2, v3, v4, .int .i64 m.now], .int .i64 room] w fun e w' => e = .returned (.int .i64 q) ∧ Below w.heap.size w w' := by
  have Hq := hide hq
  clear hq
  obtain ⟨ok, hok⟩ : ∃ q, smyB m = q := ⟨_, rfl⟩
  have Hok := hide hok
  clear hok
  obtain ⟨a0, p0, a1, p1, a2, p2, a3, p3, a4, p4, rfl, rfl, rfl, rfl, rfl, K⟩ := Bx.new h
  clear h
  go_enter Tryz.func8, Tryz.ntmps8
  go_wp2_with fail
  generalize w.alloc (.cells #[.slice a0 m.rooms.length p0, .slice a1 m.guilds.length p1, .slice a2 m.smiths.length p2, .slice a3 m.desks.length p3, .slice a4 m.paces.length p4, .int .i64 m.now] 40) = W at *
  refine (spec_q (unhide Hok) K.smy).mono ?_
  rintro e w1 ⟨rfl, hb⟩
  replace K := K.next hb
  clear hb
  cases ok
  · obtain rfl : q = -1 := by rw [← unhide Hq]; unfold needInV; rw [unhide Hok]; simp
    go_wp2_with fail
    go_ret
    exact ⟨rfl, K.bb⟩
  obtain ⟨qr, hqr⟩ : ∃ q, isRoomB m room = q := ⟨_, rfl⟩
  have Hr := hide hqr
  clear hqr
  obtain ⟨c0, c1, c2, c3, c4, c5⟩ := K.cells
  go_wp2_with fail
  refine (l13Room_q (unhide Hr) K.smy).mono ?_
  rintro e w2 ⟨rfl, hb⟩
  replace K := K.next hb
  clear hb c0 c1 c2 c3 c4 c5
  cases qr
  · obtain rfl : q = -1 := by rw [← unhide Hq]; unfold needInV; rw [unhide Hr]; simp
    go_wp2_with fail
    go_ret
    exact ⟨rfl, K.bb⟩
  obtain rfl : q = (usedIn m room m.desks.length).1 := by rw [← unhide Hq]; unfold needInV; rw [unhide Hr, unhide Hok]; rfl
  have HS := hide (smy_loose (unhide Hok)).sane
  obtain ⟨c0, c1, c2, c3, c4, c5⟩ := K.cells
  go_wp2_with fail
  refine (l13Used_any room K.smy (unhide HS)).mono ?_
  rintro e w3 ⟨rfl, hb⟩
  replace K := K.next hb
  clear hb c0 c1 c2 c3 c4 c5
  go_wp2_with fail
  go_ret
  exact ⟨rfl, K.bb⟩
set_option maxHeartbeats 4000000 in
theorem specCoalIn_any {w : World} {v0 v1 v2 v3 v4 : Value} {m : SmyV} {room q : Int} (hq : coalInV m room = q) (h : Smy w v0 v1 v2 v3 v4 m) : Calls Tryz.prog 12 #[.agg #[v0, v1, v2, v3, v4, .int .i64 m.now], .int .i64 room] w fun e w' => e = .returned (.int .i64 q) ∧ Below w.heap.size w w' := by
  have Hq := hide hq
  clear hq
  obtain ⟨ok, hok⟩ : ∃ q, smyB m = q := ⟨_, rfl⟩
  have Hok := hide hok
  clear hok
  obtain ⟨a0, p0, a1, p1, a2, p2, a3, p3, a4, p4, rfl, rfl, rfl, rfl, rfl, K⟩ := Bx.new h
  clear h
  go_enter Tryz.func12, Tryz.ntmps12
  go_wp2_with fail
  generalize w.alloc (.cells #[.slice a0 m.rooms.length p0, .slice a1 m.guilds.length p1, .slice a2 m.smiths.length p2, .slice a3 m.desks.length p3, .slice a4 m.paces.length p4, .int .i64 m.now] 40) = W at *
  refine (spec_q (unhide Hok) K.smy).mono ?_
  rintro e w1 ⟨rfl, hb⟩
  replace K := K.next hb
  clear hb
  cases ok
  · obtain rfl : q = -1 := by rw [← unhide Hq]; unfold coalInV; rw [unhide Hok]; simp
    go_wp2_with fail
    go_ret
    exact ⟨rfl, K.bb⟩
  obtain ⟨qr, hqr⟩ : ∃ q, isRoomB m room = q := ⟨_, rfl⟩
  have Hr := hide hqr
  clear hqr
  obtain ⟨c0, c1, c2, c3, c4, c5⟩ := K.cells
  go_wp2_with fail
  refine (l13Room_q (unhide Hr) K.smy).mono ?_
  rintro e w2 ⟨rfl, hb⟩
  replace K := K.next hb
  clear hb c0 c1 c2 c3 c4 c5
  cases qr
  · obtain rfl : q = -1 := by rw [← unhide Hq]; unfold coalInV; rw [unhide Hr]; simp
    go_wp2_with fail
    go_ret
    exact ⟨rfl, K.bb⟩
  obtain ⟨r, rfl, hr⟩ := room_of (unhide Hr)
  obtain rfl : q = coalIn m r := by rw [← unhide Hq]; unfold coalInV; rw [unhide Hr, unhide Hok]; rfl
  have HS := hide (smy_loose (unhide Hok)).sane
  obtain ⟨c0, c1, c2, c3, c4, c5⟩ := K.cells
  go_wp2_with fail
  refine (l13Coal_any K.smy (unhide HS) hr).mono ?_
  rintro e w3 ⟨rfl, hb⟩
  replace K := K.next hb
  clear hb c0 c1 c2 c3 c4 c5
  go_wp2_with fail
  go_ret
  exact ⟨rfl, K.bb⟩
set_option maxHeartbeats 4000000 in
theorem specCoalOf_any {w : World} {v0 v1 v2 v3 v4 : Value} {m : SmyV} {q : Int} (hq : coalOfV m = q) (h : Smy w v0 v1 v2 v3 v4 m) : Calls Tryz.prog 14 #[.agg #[v0, v1, v2, v3, v4, .int .i64 m.now]] w fun e w' => e = .returned (.int .i64 q) ∧ Below w.heap.size w w' := by
  have Hq := hide hq
  clear hq
  obtain ⟨ok, hok⟩ : ∃ q, smyB m = q := ⟨_, rfl⟩
  have Hok := hide hok
  clear hok
  obtain ⟨a0, p0, a1, p1, a2, p2, a3, p3, a4, p4, rfl, rfl, rfl, rfl, rfl, K⟩ := Bx.new h
  clear h
  go_enter Tryz.func14, Tryz.ntmps14
  go_wp2_with fail
  generalize w.alloc (.cells #[.slice a0 m.rooms.length p0, .slice a1 m.guilds.length p1, .slice a2 m.smiths.length p2, .slice a3 m.desks.length p3, .slice a4 m.paces.length p4, .int .i64 m.now] 40) = W at *
  refine (spec_q (unhide Hok) K.smy).mono ?_
  rintro e w1 ⟨rfl, hb⟩
  replace K := K.next hb
  clear hb
  cases ok
  · obtain rfl : q = -1 := by rw [← unhide Hq]; unfold coalOfV; rw [unhide Hok]; simp
    go_wp2_with fail
    go_ret
    exact ⟨rfl, K.bb⟩
  obtain rfl : q = coalAll m := by rw [← unhide Hq]; unfold coalOfV; rw [unhide Hok]; rfl
  have HS := hide (smy_loose (unhide Hok)).sane
  obtain ⟨c0, c1, c2, c3, c4, c5⟩ := K.cells
  go_wp2_with fail
  refine (l13All_any K.smy (unhide HS)).mono ?_
  rintro e w2 ⟨rfl, hb⟩
  replace K := K.next hb
  clear hb c0 c1 c2 c3 c4 c5
  go_wp2_with fail
  go_ret
  exact ⟨rfl, K.bb⟩
set_option maxHeartbeats 4000000 in
theorem specCoalWith_any {w : World} {v0 v1 v2 v3 v4 : Value} {m : SmyV} {who b q : Int} (hq : coalWithOfV m who b = q) (h : Smy w v0 v1 v2 v3 v4 m) : Calls Tryz.prog 16 #[.agg #[v0, v1, v2, v3, v4, .int .i64 m.now], .int .i64 who, .int .i64 b] w fun e w' => e = .returned (.int .i64 q) ∧ Below w.heap.size w w' := by
  have Hq := hide hq
  clear hq
  obtain ⟨ok, hok⟩ : ∃ q, smyB m = q := ⟨_, rfl⟩
  have Hok := hide hok
  clear hok
  obtain ⟨a0, p0, a1, p1, a2, p2, a3, p3, a4, p4, rfl, rfl, rfl, rfl, rfl, K⟩ := Bx.new h
  clear h
  go_enter Tryz.func16, Tryz.ntmps16
  go_wp2_with fail
  generalize w.alloc (.cells #[.slice a0 m.rooms.length p0, .slice a1 m.guilds.length p1, .slice a2 m.smiths.length p2, .slice a3 m.desks.length p3, .slice a4 m.paces.length p4, .int .i64 m.now] 40) = W at *
  refine (spec_q (unhide Hok) K.smy).mono ?_
  rintro e w1 ⟨rfl, hb⟩
  replace K := K.next hb
  clear hb
  cases ok
  · obtain rfl : q = -1 := by rw [← unhide Hq]; unfold coalWithOfV; rw [unhide Hok]; simp
    go_wp2_with fail
    go_ret
    exact ⟨rfl, K.bb⟩
  obtain ⟨qw, hqw⟩ : ∃ q, whoB m who = q := ⟨_, rfl⟩
  have Hw := hide hqw
  clear hqw
  obtain ⟨c0, c1, c2, c3, c4, c5⟩ := K.cells
  go_wp2_with fail
  refine (l11Who_q (unhide Hw) K.smy).mono ?_
  rintro e w2 ⟨rfl, hb⟩
  replace K := K.next hb
  clear hb c0 c1 c2 c3 c4 c5
  cases qw
  · obtain rfl : q = -1 := by rw [← unhide Hq]; unfold coalWithOfV; rw [unhide Hw]; simp
    go_wp2_with fail
    go_ret
    exact ⟨rfl, K.bb⟩
  obtain ⟨qb, hqb⟩ : ∃ q, isBenchB m b = q := ⟨_, rfl⟩
  have Hb := hide hqb
  clear hqb
  obtain ⟨c0, c1, c2, c3, c4, c5⟩ := K.cells
  go_wp2_with fail
  refine (l11Bench_q (unhide Hb) K.smy).mono ?_
  rintro e w3 ⟨rfl, hb⟩
  replace K := K.next hb
  clear hb c0 c1 c2 c3 c4 c5
  have HO : Hid (openB m b = (isBenchB m b && (recAt m.desks b.toNat).1)) := hide (by unfold openB isBenchB; rw [has_in])
  cases qb
  · obtain rfl : q = -1 := by rw [← unhide Hq]; unfold coalWithOfV; rw [unhide HO, unhide Hb]; simp
    go_wp2_with fail
    go_ret
    exact ⟨rfl, K.bb⟩
  obtain ⟨k, rfl, hk, hs⟩ := whoB_of (unhide Hw)
  have hbb : 0 ≤ b ∧ b < (m.desks.length : Int) := by have := inB_of (show inB b 0 ((m.desks.length : Int) - 1) = true from unhide Hb); omega
  obtain ⟨bn, rfl⟩ : ∃ bn : Nat, b = bn := ⟨b.toNat, by omega⟩
  have hlt : bn < m.desks.length := by omega
  have hlt1 : (bn : Int) < (m.desks.length : Int) := by omega
  obtain ⟨_, _, hde, _, _, r3⟩ := K.smy.desks
  cases hde
  rcases r3 with e0 | ⟨db, off, rfl, hbw, hcl⟩
  · rw [e0] at hlt; simp at hlt
  obtain ⟨d0, _, _⟩ := desk_cells hcl hlt
  clear hcl
  obtain ⟨op, hop⟩ : ∃ o, (recAt m.desks bn).1 = o := ⟨_, rfl⟩
  have Hop := hide hop
  rw [hop] at d0
  clear hop
  obtain ⟨c0, c1, c2, c3, c4, c5⟩ := K.cells
  cases op
  · obtain rfl : q = -1 := by rw [← unhide Hq]; unfold coalWithOfV; rw [unhide HO, Int.toNat_natCast, unhide Hop]; simp
    go_wp2_with fail
    go_ret
    exact ⟨rfl, K.bb⟩
  obtain rfl : q = coalWithV m (k : Int) (bn : Int) := by rw [← unhide Hq]; unfold coalWithOfV; rw [unhide Hok, unhide Hw, unhide HO, unhide Hb, Int.toNat_natCast, unhide Hop]; rfl
  have HS := hide (smy_loose (unhide Hok)).sane
  have hp := (few_of (smy_loose (unhide Hok))).nums
  go_wp2_with fail
  refine (l13With_any (bn : Int) K.smy (unhide HS) hp hk hs).mono ?_
  rintro e w4 ⟨rfl, hb⟩
  replace K := K.next hb
  clear hb c0 c1 c2 c3 c4 c5
  go_wp2_with fail
  go_ret
  exact ⟨rfl, K.bb⟩

end Go.Proofs.YtnponpamjddpjabGreat

/- The walk of the exact law on NeedIn. Condition: the smithy can be read. -/
namespace Go.Proofs.YtnponpamjddpjabGreat
open Go.ChangeShapes Go.WideShapes Go.ChangeAt Go.RowKit Go.Sort
set_option linter.unusedVariables false

set_option maxRecDepth 100000 in
set_option maxHeartbeats 8000000 in
theorem walkFnExactNeedIn (v0 v1 v2 v3 v4 : Value) (m : SmyV) (room : Int) (w : World) (h : Smy w v0 v1 v2 v3 v4 m) :
    Calls Tryz.prog 3 #[.agg #[v0, v1, v2, v3, v4, .int .i64 m.now], .int .i64 room] w fun e w' => e = .returned (.bool true) ∧ Below w.heap.size w w' := by
  obtain ⟨q, hq⟩ : ∃ q, needInV m room = q := ⟨_, rfl⟩
  have Hq := hide hq
  clear hq
  have Hv := hide h
  obtain ⟨a0, p0, rfl, _, _⟩ := IsRooms.shape h.rooms
  obtain ⟨a1, p1, rfl, _, _⟩ := IsRec.shape h.guilds
  obtain ⟨a2, p2, rfl, _, _⟩ := IsRec.shape h.smiths
  obtain ⟨a3, p3, rfl, _, _⟩ := IsRec.shape h.desks
  obtain ⟨a4, p4, rfl, _, _⟩ := IsRec.shape h.paces
  clear h
  go_enter Tryz.func3, Tryz.ntmps3
  go_wp2_with fail
  refine (szSmithy_any ((unhide Hv).alloc _)).mono ?_
  rintro e w1 ⟨x, rfl, hx, hb⟩
  have ka : Hid (Blk w1 w.heap.size 30 #[.slice a0 m.rooms.length p0, .slice a1 m.guilds.length p1, .slice a2 m.smiths.length p2, .slice a3 m.desks.length p3, .slice a4 m.paces.length p4, .int .i64 m.now]) := hide ((Blk.new w _ _).below hb (by simp))
  have BB : Hid (Below w.heap.size w w1) := hide (((Below.refl _ _).alloc (Nat.le_refl _) _).trans (hb.mono (by simp)))
  have Hx := hide hx
  clear hx hb
  by_cases hx0 : x < 0
  · go_wp2_with fail
    go_ret
    exact ⟨rfl, unhide BB⟩
  have Hs := hide (unhide Hx (by omega))
  clear Hx
  have c0 := (unhide ka).cell (i := 0) (v := .slice a0 m.rooms.length p0) rfl
  have c1 := (unhide ka).cell (i := 1) (v := .slice a1 m.guilds.length p1) rfl
  have c2 := (unhide ka).cell (i := 2) (v := .slice a2 m.smiths.length p2) rfl
  have c3 := (unhide ka).cell (i := 3) (v := .slice a3 m.desks.length p3) rfl
  have c4 := (unhide ka).cell (i := 4) (v := .slice a4 m.paces.length p4) rfl
  have c5 := (unhide ka).cell (i := 5) (v := .int .i64 m.now) rfl
  go_wp2_with fail
  refine (toSmithy_any ((unhide Hv).below (unhide BB)) (unhide Hs)).mono ?_
  rintro e w2 ⟨u0, u1, u2, u3, u4, rfl, ho, hb⟩
  clear c0 c1 c2 c3 c4 c5
  have k2 := ho.smy
  obtain ⟨b0, q0, rfl, _, _⟩ := IsRooms.shape k2.rooms
  obtain ⟨b1, q1, rfl, _, _⟩ := IsRec.shape k2.guilds
  obtain ⟨b2, q2, rfl, _, _⟩ := IsRec.shape k2.smiths
  obtain ⟨b3, q3, rfl, _, _⟩ := IsRec.shape k2.desks
  obtain ⟨b4, q4, rfl, _, _⟩ := IsRec.shape k2.paces
  have K2 := hide k2
  clear k2 ho
  replace ka := hide ((unhide ka).below hb (unhide ka).lt)
  replace BB := hide ((unhide BB).trans (hb.mono (unhide BB).size))
  clear hb
  go_wp2_with fail
  refine (specNeedIn_any (unhide Hq) (unhide K2)).mono ?_
  rintro e w3 ⟨rfl, hb⟩
  replace ka := hide ((unhide ka).below hb (unhide ka).lt)
  replace BB := hide ((unhide BB).trans (hb.mono (unhide BB).size))
  clear hb K2
  have c0 := (unhide ka).cell (i := 0) (v := .slice a0 m.rooms.length p0) rfl
  have c1 := (unhide ka).cell (i := 1) (v := .slice a1 m.guilds.length p1) rfl
  have c2 := (unhide ka).cell (i := 2) (v := .slice a2 m.smiths.length p2) rfl
  have c3 := (unhide ka).cell (i := 3) (v := .slice a3 m.desks.length p3) rfl
  have c4 := (unhide ka).cell (i := 4) (v := .slice a4 m.paces.length p4) rfl
  have c5 := (unhide ka).cell (i := 5) (v := .int .i64 m.now) rfl
  go_wp2_with fail
  refine (toSmithy_any ((unhide Hv).below (unhide BB)) (unhide Hs)).mono ?_
  rintro e w4 ⟨u0, u1, u2, u3, u4, rfl, ho, hb⟩
  clear c0 c1 c2 c3 c4 c5
  have k4 := ho.smy
  obtain ⟨d0, r0, rfl, _, _⟩ := IsRooms.shape k4.rooms
  obtain ⟨d1, r1, rfl, _, _⟩ := IsRec.shape k4.guilds
  obtain ⟨d2, r2, rfl, _, _⟩ := IsRec.shape k4.smiths
  obtain ⟨d3, r3, rfl, _, _⟩ := IsRec.shape k4.desks
  obtain ⟨d4, r4, rfl, _, _⟩ := IsRec.shape k4.paces
  have K4 := hide (k4.alloc (.cells #[.slice d0 m.rooms.length r0, .slice d1 m.guilds.length r1, .slice d2 m.smiths.length r2, .slice d3 m.desks.length r3, .slice d4 m.paces.length r4, .int .i64 m.now] 40))
  clear k4 ho
  replace ka := hide ((unhide ka).below hb (unhide ka).lt)
  replace BB := hide ((unhide BB).trans (hb.mono (unhide BB).size))
  clear hb
  go_wp2_with fail
  replace ka := hide ((unhide ka).alloc (.cells #[.slice d0 m.rooms.length r0, .slice d1 m.guilds.length r1, .slice d2 m.smiths.length r2, .slice d3 m.desks.length r3, .slice d4 m.paces.length r4, .int .i64 m.now] 40))
  replace BB := hide ((unhide BB).alloc (unhide BB).size (.cells #[.slice d0 m.rooms.length r0, .slice d1 m.guilds.length r1, .slice d2 m.smiths.length r2, .slice d3 m.desks.length r3, .slice d4 m.paces.length r4, .int .i64 m.now] 40))
  have kx : Hid (Blk (w4.alloc (.cells #[.slice d0 m.rooms.length r0, .slice d1 m.guilds.length r1, .slice d2 m.smiths.length r2, .slice d3 m.desks.length r3, .slice d4 m.paces.length r4, .int .i64 m.now] 40)) w4.heap.size 40 #[.slice d0 m.rooms.length r0, .slice d1 m.guilds.length r1, .slice d2 m.smiths.length r2, .slice d3 m.desks.length r3, .slice d4 m.paces.length r4, .int .i64 m.now]) := hide (Blk.new _ _ _)
  generalize w4.alloc (.cells #[.slice d0 m.rooms.length r0, .slice d1 m.guilds.length r1, .slice d2 m.smiths.length r2, .slice d3 m.desks.length r3, .slice d4 m.paces.length r4, .int .i64 m.now] 40) = W at *
  generalize w4.heap.size = xb at *
  refine (implNeedIn_any (unhide Hq) (unhide K4)).mono ?_
  rintro e w5 ⟨rfl, hb⟩
  replace K4 := hide ((unhide K4).below hb)
  replace ka := hide ((unhide ka).below hb (unhide ka).lt)
  replace kx := hide ((unhide kx).below hb (unhide kx).lt)
  replace BB := hide ((unhide BB).trans (hb.mono (unhide BB).size))
  clear hb
  have V5 := hide ((unhide Hv).below (unhide BB))
  have c0 := (unhide ka).cell (i := 0) (v := .slice a0 m.rooms.length p0) rfl
  have c1 := (unhide ka).cell (i := 1) (v := .slice a1 m.guilds.length p1) rfl
  have c2 := (unhide ka).cell (i := 2) (v := .slice a2 m.smiths.length p2) rfl
  have c3 := (unhide ka).cell (i := 3) (v := .slice a3 m.desks.length p3) rfl
  have c4 := (unhide ka).cell (i := 4) (v := .slice a4 m.paces.length p4) rfl
  have c5 := (unhide ka).cell (i := 5) (v := .int .i64 m.now) rfl
  have x0 := (unhide kx).cell (i := 0) (v := .slice d0 m.rooms.length r0) rfl
  have x1 := (unhide kx).cell (i := 1) (v := .slice d1 m.guilds.length r1) rfl
  have x2 := (unhide kx).cell (i := 2) (v := .slice d2 m.smiths.length r2) rfl
  have x3 := (unhide kx).cell (i := 3) (v := .slice d3 m.desks.length r3) rfl
  have x4 := (unhide kx).cell (i := 4) (v := .slice d4 m.paces.length r4) rfl
  have x5 := (unhide kx).cell (i := 5) (v := .int .i64 m.now) rfl
  go_wp2_with fail
  go_region_with (first
    | (go_at_call 9; refine (toSmithy_any (m := m) ?_ (unhide Hs)).mono ?_; exact (unhide V5).below (Below.refl _ _).drew; rintro e w6 ⟨u0, u1, u2, u3, u4, rfl, ho, hb⟩; have k6 := ho.smy; obtain ⟨f0, t0, rfl, _, _⟩ := IsRooms.shape k6.rooms; obtain ⟨f1, t1, rfl, _, _⟩ := IsRec.shape k6.guilds; obtain ⟨f2, t2, rfl, _, _⟩ := IsRec.shape k6.smiths; obtain ⟨f3, t3, rfl, _, _⟩ := IsRec.shape k6.desks; obtain ⟨f4, t4, rfl, _, _⟩ := IsRec.shape k6.paces; have K6 := hide k6; have Hb6 : Hid (Below w5.heap.size w5 w6) := hide ⟨hb.os, hb.tape, hb.output, hb.size, hb.block⟩; have kx6 := (unhide kx).below (unhide Hb6) (unhide kx).lt; have y0 := kx6.cell (i := 0) (v := .slice d0 m.rooms.length r0) rfl; have y1 := kx6.cell (i := 1) (v := .slice d1 m.guilds.length r1) rfl; have y2 := kx6.cell (i := 2) (v := .slice d2 m.smiths.length r2) rfl; have y3 := kx6.cell (i := 3) (v := .slice d3 m.desks.length r3) rfl; have y4 := kx6.cell (i := 4) (v := .slice d4 m.paces.length r4) rfl; have y5 := kx6.cell (i := 5) (v := .int .i64 m.now) rfl; clear k6 ho hb kx6)
    | (go_at_call 11; refine (eqSmithy_yes (m := m) ?_ ?_).mono ?_; exact (unhide K4).below (unhide Hb6); exact unhide K6; rintro e w7 ⟨rfl, hb⟩; have Hb7 := hide hb; clear hb))
  all_goals
    go_wp2_with fail
    go_ret
    exact ⟨rfl, (unhide BB).trans (((unhide Hb6).trans ((unhide Hb7).mono (unhide Hb6).size)).mono (unhide BB).size)⟩

end Go.Proofs.YtnponpamjddpjabGreat

/- A room or a hall that is handed in, opened: what it reads as. No condition. -/
namespace Go.Proofs.YtnponpamjddpjabGreat
open Go.ChangeShapes Go.WideShapes Go.ChangeAt Go.RowKit Go.Deep
set_option linter.unusedVariables false

theorem addr_two {w : World} {b off i : Nat} {u u' : Value} (h1 : w.cell? ((⟨b, off, none⟩ : Addr).add (i * 2)) = some u) (h2 : w.cell? ((⟨b, off, none⟩ : Addr).add (i * 2 + 1)) = some u') :
    w.cell? ⟨b, off + i * 2, none⟩ = some u ∧ w.cell? ⟨b, off + i * 2 + 1, none⟩ = some u' := by
  by_cases hi : i = 0
  · subst hi
    simp [Addr.add] at h1 h2 ⊢
    exact ⟨h1, h2⟩
  · have h2i : ¬ i * 2 = 0 := by omega
    simp [Addr.add, h2i] at h1 h2 ⊢
    exact ⟨h1, h2⟩

theorem open_paces {H : Type} {enc : TypeId × Value → H} {W : World} {spare : Nat → Bool} {held : Bool} {n : Nat} {v : Value} {y : DataW H × List MemPlace}
    (h : DataW.trod enc Tryz.prog W 0 spare held n 110 [v] = some y) : ∃ ps, IsPaces W v ps := by
  rcases open_slice_pairs Tryz.underlying110 Tryz.underlying156 (by kernel_rfl) rfl rfl (by kernel_rfl) (by kernel_rfl) h with ⟨hv, _⟩ | ⟨a, len, cap, m, n', V0, V1, D0, D1, P0, P1, hv, _, hl, hm, hmm, _, hx⟩
  · cases hv
    exact ⟨[], none, 0, rfl, Nat.le_refl _, by omega, .inl rfl⟩
  · cases hv
    have hlm : len ≤ m := by rw [hmm]; split <;> omega
    obtain ⟨F, hF⟩ := choose_lt (α := Int × Int) (n := len) (p := fun i q => V0 i = .int .i64 q.1 ∧ V1 i = .int .i64 q.2) (fun i hi => by
      obtain ⟨_, _, t0, t1⟩ := hx i (by omega)
      obtain ⟨q0, e0, _⟩ := DataW.trod_int Tryz.underlying2 t0
      obtain ⟨q1, e1, _⟩ := DataW.trod_int Tryz.underlying2 t1
      exact ⟨(q0, q1), by simpa using e0, by simpa using e1⟩)
    have hlen : ((List.range len).map F).length = len := by simp
    refine ⟨(List.range len).map F, some a, cap, by rw [hlen], by rw [hlen]; exact hl, by unfold maxLen at hm; omega, ?_⟩
    by_cases hz : len = 0
    · exact .inl (by simp [hz])
    · have h0 := hx 0 (by omega)
      have sp := World.cell?_spot h0.1
      have hlt := World.block_lt_of_cell? _ _ h0.1
      obtain ⟨b, off, spot⟩ := a
      have hspot : spot = none := by simpa [Addr.add] using sp
      subst hspot
      refine .inr ⟨b, off, rfl, by simpa [Addr.add] using hlt, fun k hk => ?_⟩
      rw [hlen] at hk
      obtain ⟨c0, c1, _, _⟩ := hx k (by omega)
      obtain ⟨e0, e1⟩ := hF k hk
      have hat : paceAt ((List.range len).map F) k = F k := by unfold paceAt; simp [List.getD, hk]
      rw [hat, ← e0, ← e1]
      exact addr_two c0 c1

theorem open_rooms {H : Type} {enc : TypeId × Value → H} {W : World} {spare : Nat → Bool} {held : Bool} {n : Nat} {v : Value} {y : DataW H × List MemPlace}
    (h : DataW.trod enc Tryz.prog W 0 spare held n 22 [v] = some y) : ∃ rs, IsRooms W v rs := by
  rcases open_slice_pairs Tryz.underlying22 Tryz.underlying112 (by kernel_rfl) rfl rfl (by kernel_rfl) (by kernel_rfl) h with ⟨hv, _⟩ | ⟨a, len, cap, m, n', V0, V1, D0, D1, P0, P1, hv, _, hl, hm, hmm, _, hx⟩
  · cases hv
    exact ⟨[], none, 0, rfl, Nat.le_refl _, by omega, .inl rfl⟩
  · cases hv
    have hlm : len ≤ m := by rw [hmm]; split <;> omega
    obtain ⟨F, hF⟩ := choose_lt (α := RoomV) (n := len) (p := fun i q => V0 i = .int .i64 q.1 ∧ IsPaces W (V1 i) q.2) (fun i hi => by
      obtain ⟨_, _, t0, t1⟩ := hx i (by omega)
      obtain ⟨q0, e0, _⟩ := DataW.trod_int Tryz.underlying2 t0
      obtain ⟨ps, e1⟩ := open_paces t1
      exact ⟨(q0, ps), by simpa using e0, e1⟩)
    have hlen : ((List.range len).map F).length = len := by simp
    refine ⟨(List.range len).map F, some a, cap, by rw [hlen], by rw [hlen]; exact hl, by unfold maxLen at hm; omega, ?_⟩
    by_cases hz : len = 0
    · exact .inl (by simp [hz])
    · have h0 := hx 0 (by omega)
      have sp := World.cell?_spot h0.1
      have hlt := World.block_lt_of_cell? _ _ h0.1
      obtain ⟨b, off, spot⟩ := a
      have hspot : spot = none := by simpa [Addr.add] using sp
      subst hspot
      refine .inr ⟨b, off, rfl, by simpa [Addr.add] using hlt, fun k hk => ?_⟩
      rw [hlen] at hk
      obtain ⟨c0, c1, _, _⟩ := hx k (by omega)
      obtain ⟨e0, e1⟩ := hF k hk
      have hat : roomAt ((List.range len).map F) k = F k := by unfold roomAt; simp [List.getD, hk]
      rw [hat, ← e0]
      exact ⟨(addr_two c0 c1).1, V1 k, (addr_two c0 c1).2, e1⟩

end Go.Proofs.YtnponpamjddpjabGreat

/- A list of records (Guild), or one, that is handed in, opened: what it reads as. No condition. -/
namespace Go.Proofs.YtnponpamjddpjabGreat
open Go.ChangeShapes Go.WideShapes Go.ChangeAt Go.RowKit Go.Deep
set_option linter.unusedVariables false

set_option maxRecDepth 100000 in
theorem trod_guilds {H : Type} {enc : TypeId × Value → H} {W : World} {spare : Nat → Bool} {held : Bool} {n : Nat} {v : Value} {y : DataW H × List MemPlace}
    (h : DataW.trod enc Tryz.prog W 0 spare held n 25 [v] = some y) : ∃ ps, IsGuilds W v ps := by
  refine open_recs (k := 3) (enc := encGuild) Tryz.underlying25 Tryz.underlying84 (by kernel_rfl) rfl (by kernel_rfl) (by omega) ?_ h
  intro cs hl hc
  match cs, hl with
  | [c0, c1, c2], _ =>
    obtain ⟨u0, n0, y0, e0, t0⟩ := hc 0 _ rfl
    obtain ⟨u1, n1, y1, e1, t1⟩ := hc 1 _ rfl
    obtain ⟨u2, n2, y2, e2, t2⟩ := hc 2 _ rfl
    obtain ⟨z0, q0, _⟩ := DataW.trod_int Tryz.underlying2 t0
    obtain ⟨z1, q1, _⟩ := DataW.trod_int Tryz.underlying2 t1
    obtain ⟨z2, q2, _⟩ := DataW.trod_int Tryz.underlying2 t2
    cases e0; cases e1; cases e2; cases q0; cases q1; cases q2
    exact ⟨(z0, z1, z2), rfl⟩
end Go.Proofs.YtnponpamjddpjabGreat

/- A list of records (Smith), or one, that is handed in, opened: what it reads as. No condition. -/
namespace Go.Proofs.YtnponpamjddpjabGreat
open Go.ChangeShapes Go.WideShapes Go.ChangeAt Go.RowKit Go.Deep
set_option linter.unusedVariables false

set_option maxRecDepth 100000 in
theorem trod_smiths {H : Type} {enc : TypeId × Value → H} {W : World} {spare : Nat → Bool} {held : Bool} {n : Nat} {v : Value} {y : DataW H × List MemPlace}
    (h : DataW.trod enc Tryz.prog W 0 spare held n 26 [v] = some y) : ∃ ps, IsSmiths W v ps := by
  refine open_recs (k := 11) (enc := encSmith) Tryz.underlying26 Tryz.underlying86 (by kernel_rfl) rfl (by kernel_rfl) (by omega) ?_ h
  intro cs hl hc
  match cs, hl with
  | [c0, c1, c2, c3, c4, c5, c6, c7, c8, c9, c10], _ =>
    obtain ⟨u0, n0, y0, e0, t0⟩ := hc 0 _ rfl
    obtain ⟨u1, n1, y1, e1, t1⟩ := hc 1 _ rfl
    obtain ⟨u2, n2, y2, e2, t2⟩ := hc 2 _ rfl
    obtain ⟨u3, n3, y3, e3, t3⟩ := hc 3 _ rfl
    obtain ⟨u4, n4, y4, e4, t4⟩ := hc 4 _ rfl
    obtain ⟨u5, n5, y5, e5, t5⟩ := hc 5 _ rfl
    obtain ⟨u6, n6, y6, e6, t6⟩ := hc 6 _ rfl
    obtain ⟨u7, n7, y7, e7, t7⟩ := hc 7 _ rfl
    obtain ⟨u8, n8, y8, e8, t8⟩ := hc 8 _ rfl
    obtain ⟨u9, n9, y9, e9, t9⟩ := hc 9 _ rfl
    obtain ⟨u10, n10, y10, e10, t10⟩ := hc 10 _ rfl
    obtain ⟨z0, q0, _⟩ := DataW.trod_int Tryz.underlying2 t0
    obtain ⟨z1, q1, _⟩ := DataW.trod_int Tryz.underlying2 t1
    obtain ⟨z2, q2, _⟩ := DataW.trod_int Tryz.underlying2 t2
    obtain ⟨z3, q3, _⟩ := DataW.trod_int Tryz.underlying2 t3
    obtain ⟨z4, q4, _⟩ := DataW.trod_int Tryz.underlying2 t4
    obtain ⟨z5, q5, _⟩ := DataW.trod_int Tryz.underlying2 t5
    obtain ⟨z6, q6, _⟩ := DataW.trod_int Tryz.underlying2 t6
    obtain ⟨z7, q7, _⟩ := DataW.trod_int Tryz.underlying2 t7
    obtain ⟨z8, q8, _⟩ := DataW.trod_int Tryz.underlying2 t8
    obtain ⟨z9, q9, _⟩ := DataW.trod_int Tryz.underlying2 t9
    obtain ⟨z10, q10, _⟩ := DataW.trod_int Tryz.underlying2 t10
    cases e0; cases e1; cases e2; cases e3; cases e4; cases e5; cases e6; cases e7; cases e8; cases e9; cases e10; cases q0; cases q1; cases q2; cases q3; cases q4; cases q5; cases q6; cases q7; cases q8; cases q9; cases q10
    exact ⟨(z0, z1, z2, z3, z4, z5, z6, z7, z8, z9, z10), rfl⟩
end Go.Proofs.YtnponpamjddpjabGreat

/- A list of records (Desk), or one, that is handed in, opened: what it reads as. No condition. -/
namespace Go.Proofs.YtnponpamjddpjabGreat
open Go.ChangeShapes Go.WideShapes Go.ChangeAt Go.RowKit Go.Deep
set_option linter.unusedVariables false

set_option maxRecDepth 100000 in
theorem trod_desks {H : Type} {enc : TypeId × Value → H} {W : World} {spare : Nat → Bool} {held : Bool} {n : Nat} {v : Value} {y : DataW H × List MemPlace}
    (h : DataW.trod enc Tryz.prog W 0 spare held n 27 [v] = some y) : ∃ ps, IsDesks W v ps := by
  refine open_recs (k := 3) (enc := encDesk) Tryz.underlying27 Tryz.underlying88 (by kernel_rfl) rfl (by kernel_rfl) (by omega) ?_ h
  intro cs hl hc
  match cs, hl with
  | [c0, c1, c2], _ =>
    obtain ⟨u0, n0, y0, e0, t0⟩ := hc 0 _ rfl
    obtain ⟨u1, n1, y1, e1, t1⟩ := hc 1 _ rfl
    obtain ⟨u2, n2, y2, e2, t2⟩ := hc 2 _ rfl
    obtain ⟨z0, q0, _⟩ := DataW.trod_bool Tryz.underlying4 t0
    obtain ⟨z1, q1, _⟩ := DataW.trod_int Tryz.underlying2 t1
    obtain ⟨z2, q2, _⟩ := DataW.trod_int Tryz.underlying2 t2
    cases e0; cases e1; cases e2; cases q0; cases q1; cases q2
    exact ⟨(z0, z1, z2), rfl⟩
end Go.Proofs.YtnponpamjddpjabGreat

/- A smithy that is handed in, opened: what it reads as. No condition. -/
namespace Go.Proofs.YtnponpamjddpjabGreat
open Go.ChangeShapes Go.WideShapes Go.ChangeAt Go.RowKit Go.Deep
set_option linter.unusedVariables false

set_option maxRecDepth 100000 in
theorem open_smithy {H : Type} {enc : TypeId × Value → H} {W : World} {spare : Nat → Bool} {held : Bool} {r : Reach} {b0 : Nat} {v : Value} {d : DataW H} {p : List MemPlace}
    (hv : Value.okWide Tryz.prog W r b0 30 v) (h : DataW.Trod enc Tryz.prog W 0 spare held 30 v d p) : ∃ v0 v1 v2 v3 v4 m, v = .agg #[v0, v1, v2, v3, v4, .int .i64 m.now] ∧ Smy W v0 v1 v2 v3 v4 m := by
  obtain ⟨cs, rfl, hsz⟩ := okWide_struct Tryz.underlying30 hv
  have h1 : cs.size = 6 := hsz.trans (by kernel_rfl)
  obtain ⟨l⟩ := cs
  match l, h1 with
  | [c0, c1, c2, c3, c4, c5], _ =>
    obtain ⟨fuel, hf⟩ := h
    obtain ⟨xs, n, _, _, hl, hxl, hF⟩ := DataW.trod_struct Tryz.underlying30 hf
    have k1 : Tryz.prog.cellsOf 24 = 1 := by kernel_rfl
    have k2 : Tryz.prog.cellsOf 25 = 1 := by kernel_rfl
    have k3 : Tryz.prog.cellsOf 26 = 1 := by kernel_rfl
    have k4 : Tryz.prog.cellsOf 27 = 1 := by kernel_rfl
    have k5 : Tryz.prog.cellsOf 28 = 1 := by kernel_rfl
    have k6 : Tryz.prog.cellsOf 2 = 1 := by kernel_rfl
    match xs, hxl with
    | [y0, y1, y2, y3, y4, y5], _ =>
      have g0 := hF 0 _ rfl
      have g1 := hF 1 _ rfl
      have g2 := hF 2 _ rfl
      have g3 := hF 3 _ rfl
      have g4 := hF 4 _ rfl
      have g5 := hF 5 _ rfl
      simp [Value.cells, k1] at g0
      simp [Value.cells, k2] at g1
      simp [Value.cells, k3] at g2
      simp [Value.cells, k4] at g3
      simp [Value.cells, k5] at g4
      simp [Value.cells, k6] at g5
      obtain ⟨z0, n', _, _, h0⟩ := trod_struct1 Tryz.underlying24 g0
      have kr : Tryz.prog.cellsOf 22 = 1 := by kernel_rfl
      obtain ⟨rs, hr⟩ := open_rooms (v := c0) (by simpa [kr] using h0)
      obtain ⟨gs, hg⟩ := trod_guilds g1
      obtain ⟨ss, hs⟩ := trod_smiths g2
      obtain ⟨ds, hd⟩ := trod_desks g3
      obtain ⟨ps, hp⟩ := open_nums g4
      obtain ⟨now, e, _⟩ := DataW.trod_int Tryz.underlying2 g5
      cases e
      exact ⟨c0, c1, c2, c3, c4, ⟨rs, gs, ss, ds, ps, now⟩, rfl, ⟨hr, hg, hs, hd, hp⟩⟩

end Go.Proofs.YtnponpamjddpjabGreat

/- The walk of the exact law on CoalIn. Condition: the smithy can be read. -/
namespace Go.Proofs.YtnponpamjddpjabGreat
open Go.ChangeShapes Go.WideShapes Go.ChangeAt Go.RowKit Go.Sort
set_option linter.unusedVariables false

set_option maxRecDepth 100000 in
set_option maxHeartbeats 8000000 in
theorem walkFnExactCoalIn (v0 v1 v2 v3 v4 : Value) (m : SmyV) (room : Int) (w : World) (h : Smy w v0 v1 v2 v3 v4 m) :
    Calls Tryz.prog 4 #[.agg #[v0, v1, v2, v3, v4, .int .i64 m.now], .int .i64 room] w fun e w' => e = .returned (.bool true) ∧ Below w.heap.size w w' := by
  obtain ⟨q, hq⟩ : ∃ q, coalInV m room = q := ⟨_, rfl⟩
  have Hq := hide hq
  clear hq
  have Hv := hide h
  obtain ⟨a0, p0, rfl, _, _⟩ := IsRooms.shape h.rooms
  obtain ⟨a1, p1, rfl, _, _⟩ := IsRec.shape h.guilds
  obtain ⟨a2, p2, rfl, _, _⟩ := IsRec.shape h.smiths
  obtain ⟨a3, p3, rfl, _, _⟩ := IsRec.shape h.desks
  obtain ⟨a4, p4, rfl, _, _⟩ := IsRec.shape h.paces
  clear h
  go_enter Tryz.func4, Tryz.ntmps4
  go_wp2_with fail
  refine (szSmithy_any ((unhide Hv).alloc _)).mono ?_
  rintro e w1 ⟨x, rfl, hx, hb⟩
  have ka : Hid (Blk w1 w.heap.size 30 #[.slice a0 m.rooms.length p0, .slice a1 m.guilds.length p1, .slice a2 m.smiths.length p2, .slice a3 m.desks.length p3, .slice a4 m.paces.length p4, .int .i64 m.now]) := hide ((Blk.new w _ _).below hb (by simp))
  have BB : Hid (Below w.heap.size w w1) := hide (((Below.refl _ _).alloc (Nat.le_refl _) _).trans (hb.mono (by simp)))
  have Hx := hide hx
  clear hx hb
  by_cases hx0 : x < 0
  · go_wp2_with fail
    go_ret
    exact ⟨rfl, unhide BB⟩
  have Hs := hide (unhide Hx (by omega))
  clear Hx
  have c0 := (unhide ka).cell (i := 0) (v := .slice a0 m.rooms.length p0) rfl
  have c1 := (unhide ka).cell (i := 1) (v := .slice a1 m.guilds.length p1) rfl
  have c2 := (unhide ka).cell (i := 2) (v := .slice a2 m.smiths.length p2) rfl
  have c3 := (unhide ka).cell (i := 3) (v := .slice a3 m.desks.length p3) rfl
  have c4 := (unhide ka).cell (i := 4) (v := .slice a4 m.paces.length p4) rfl
  have c5 := (unhide ka).cell (i := 5) (v := .int .i64 m.now) rfl
  go_wp2_with fail
  refine (toSmithy_any ((unhide Hv).below (unhide BB)) (unhide Hs)).mono ?_
  rintro e w2 ⟨u0, u1, u2, u3, u4, rfl, ho, hb⟩
  clear c0 c1 c2 c3 c4 c5
  have k2 := ho.smy
  obtain ⟨b0, q0, rfl, _, _⟩ := IsRooms.shape k2.rooms
  obtain ⟨b1, q1, rfl, _, _⟩ := IsRec.shape k2.guilds
  obtain ⟨b2, q2, rfl, _, _⟩ := IsRec.shape k2.smiths
  obtain ⟨b3, q3, rfl, _, _⟩ := IsRec.shape k2.desks
  obtain ⟨b4, q4, rfl, _, _⟩ := IsRec.shape k2.paces
  have K2 := hide k2
  clear k2 ho
  replace ka := hide ((unhide ka).below hb (unhide ka).lt)
  replace BB := hide ((unhide BB).trans (hb.mono (unhide BB).size))
  clear hb
  go_wp2_with fail
  refine (specCoalIn_any (unhide Hq) (unhide K2)).mono ?_
  rintro e w3 ⟨rfl, hb⟩
  replace ka := hide ((unhide ka).below hb (unhide ka).lt)
  replace BB := hide ((unhide BB).trans (hb.mono (unhide BB).size))
  clear hb K2
  have c0 := (unhide ka).cell (i := 0) (v := .slice a0 m.rooms.length p0) rfl
  have c1 := (unhide ka).cell (i := 1) (v := .slice a1 m.guilds.length p1) rfl
  have c2 := (unhide ka).cell (i := 2) (v := .slice a2 m.smiths.length p2) rfl
  have c3 := (unhide ka).cell (i := 3) (v := .slice a3 m.desks.length p3) rfl
  have c4 := (unhide ka).cell (i := 4) (v := .slice a4 m.paces.length p4) rfl
  have c5 := (unhide ka).cell (i := 5) (v := .int .i64 m.now) rfl
  go_wp2_with fail
  refine (toSmithy_any ((unhide Hv).below (unhide BB)) (unhide Hs)).mono ?_
  rintro e w4 ⟨u0, u1, u2, u3, u4, rfl, ho, hb⟩
  clear c0 c1 c2 c3 c4 c5
  have k4 := ho.smy
  obtain ⟨d0, r0, rfl, _, _⟩ := IsRooms.shape k4.rooms
  obtain ⟨d1, r1, rfl, _, _⟩ := IsRec.shape k4.guilds
  obtain ⟨d2, r2, rfl, _, _⟩ := IsRec.shape k4.smiths
  obtain ⟨d3, r3, rfl, _, _⟩ := IsRec.shape k4.desks
  obtain ⟨d4, r4, rfl, _, _⟩ := IsRec.shape k4.paces
  have K4 := hide (k4.alloc (.cells #[.slice d0 m.rooms.length r0, .slice d1 m.guilds.length r1, .slice d2 m.smiths.length r2, .slice d3 m.desks.length r3, .slice d4 m.paces.length r4, .int .i64 m.now] 40))
  clear k4 ho
  replace ka := hide ((unhide ka).below hb (unhide ka).lt)
  replace BB := hide ((unhide BB).trans (hb.mono (unhide BB).size))
  clear hb
  go_wp2_with fail
  replace ka := hide ((unhide ka).alloc (.cells #[.slice d0 m.rooms.length r0, .slice d1 m.guilds.length r1, .slice d2 m.smiths.length r2, .slice d3 m.desks.length r3, .slice d4 m.paces.length r4, .int .i64 m.now] 40))
  replace BB := hide ((unhide BB).alloc (unhide BB).size (.cells #[.slice d0 m.rooms.length r0, .slice d1 m.guilds.length r1, .slice d2 m.smiths.length r2, .slice d3 m.desks.length r3, .slice d4 m.paces.length r4, .int .i64 m.now] 40))
  have kx : Hid (Blk (w4.alloc (.cells #[.slice d0 m.rooms.length r0, .slice d1 m.guilds.length r1, .slice d2 m.smiths.length r2, .slice d3 m.desks.length r3, .slice d4 m.paces.length r4, .int .i64 m.now] 40)) w4.heap.size 40 #[.slice d0 m.rooms.length r0, .slice d1 m.guilds.length r1, .slice d2 m.smiths.length r2, .slice d3 m.desks.length r3, .slice d4 m.paces.length r4, .int .i64 m.now]) := hide (Blk.new _ _ _)
  generalize w4.alloc (.cells #[.slice d0 m.rooms.length r0, .slice d1 m.guilds.length r1, .slice d2 m.smiths.length r2, .slice d3 m.desks.length r3, .slice d4 m.paces.length r4, .int .i64 m.now] 40) = W at *
  generalize w4.heap.size = xb at *
  refine (implCoalIn_any (unhide Hq) (unhide K4)).mono ?_
  rintro e w5 ⟨rfl, hb⟩
  replace K4 := hide ((unhide K4).below hb)
  replace ka := hide ((unhide ka).below hb (unhide ka).lt)
  replace kx := hide ((unhide kx).below hb (unhide kx).lt)
  replace BB := hide ((unhide BB).trans (hb.mono (unhide BB).size))
  clear hb
  have V5 := hide ((unhide Hv).below (unhide BB))
  have c0 := (unhide ka).cell (i := 0) (v := .slice a0 m.rooms.length p0) rfl
  have c1 := (unhide ka).cell (i := 1) (v := .slice a1 m.guilds.length p1) rfl
  have c2 := (unhide ka).cell (i := 2) (v := .slice a2 m.smiths.length p2) rfl
  have c3 := (unhide ka).cell (i := 3) (v := .slice a3 m.desks.length p3) rfl
  have c4 := (unhide ka).cell (i := 4) (v := .slice a4 m.paces.length p4) rfl
  have c5 := (unhide ka).cell (i := 5) (v := .int .i64 m.now) rfl
  have x0 := (unhide kx).cell (i := 0) (v := .slice d0 m.rooms.length r0) rfl
  have x1 := (unhide kx).cell (i := 1) (v := .slice d1 m.guilds.length r1) rfl
  have x2 := (unhide kx).cell (i := 2) (v := .slice d2 m.smiths.length r2) rfl
  have x3 := (unhide kx).cell (i := 3) (v := .slice d3 m.desks.length r3) rfl
  have x4 := (unhide kx).cell (i := 4) (v := .slice d4 m.paces.length r4) rfl
  have x5 := (unhide kx).cell (i := 5) (v := .int .i64 m.now) rfl
  go_wp2_with fail
  go_region_with (first
    | (go_at_call 9; refine (toSmithy_any (m := m) ?_ (unhide Hs)).mono ?_; exact (unhide V5).below (Below.refl _ _).drew; rintro e w6 ⟨u0, u1, u2, u3, u4, rfl, ho, hb⟩; have k6 := ho.smy; obtain ⟨f0, t0, rfl, _, _⟩ := IsRooms.shape k6.rooms; obtain ⟨f1, t1, rfl, _, _⟩ := IsRec.shape k6.guilds; obtain ⟨f2, t2, rfl, _, _⟩ := IsRec.shape k6.smiths; obtain ⟨f3, t3, rfl, _, _⟩ := IsRec.shape k6.desks; obtain ⟨f4, t4, rfl, _, _⟩ := IsRec.shape k6.paces; have K6 := hide k6; have Hb6 : Hid (Below w5.heap.size w5 w6) := hide ⟨hb.os, hb.tape, hb.output, hb.size, hb.block⟩; have kx6 := (unhide kx).below (unhide Hb6) (unhide kx).lt; have y0 := kx6.cell (i := 0) (v := .slice d0 m.rooms.length r0) rfl; have y1 := kx6.cell (i := 1) (v := .slice d1 m.guilds.length r1) rfl; have y2 := kx6.cell (i := 2) (v := .slice d2 m.smiths.length r2) rfl; have y3 := kx6.cell (i := 3) (v := .slice d3 m.desks.length r3) rfl; have y4 := kx6.cell (i := 4) (v := .slice d4 m.paces.length r4) rfl; have y5 := kx6.cell (i := 5) (v := .int .i64 m.now) rfl; clear k6 ho hb kx6)
    | (go_at_call 11; refine (eqSmithy_yes (m := m) ?_ ?_).mono ?_; exact (unhide K4).below (unhide Hb6); exact unhide K6; rintro e w7 ⟨rfl, hb⟩; have Hb7 := hide hb; clear hb))
  all_goals
    go_wp2_with fail
    go_ret
    exact ⟨rfl, (unhide BB).trans (((unhide Hb6).trans ((unhide Hb7).mono (unhide Hb6).size)).mono (unhide BB).size)⟩

end Go.Proofs.YtnponpamjddpjabGreat

