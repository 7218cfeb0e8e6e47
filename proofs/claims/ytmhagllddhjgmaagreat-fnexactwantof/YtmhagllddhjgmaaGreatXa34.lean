/- What the proof rests on, part 34: lists and numbers, how they lie in memory, and contracts of the calls. No condition but those that a theorem names. -/
import Derived.Test.YtmhagllddhjgmaaGreatXa01
import Derived.Test.YtmhagllddhjgmaaGreatXa02
import Derived.Test.YtmhagllddhjgmaaGreatXa03
import Derived.Test.YtmhagllddhjgmaaGreatXa04
import Derived.Test.YtmhagllddhjgmaaGreatXa05
import Derived.Test.YtmhagllddhjgmaaGreatXa06
import Derived.Test.YtmhagllddhjgmaaGreatXa07
import Derived.Test.YtmhagllddhjgmaaGreatXa08
import Derived.Test.YtmhagllddhjgmaaGreatXa09
import Derived.Test.YtmhagllddhjgmaaGreatXa10
import Derived.Test.YtmhagllddhjgmaaGreatXa11
import Derived.Test.YtmhagllddhjgmaaGreatXa12
import Derived.Test.YtmhagllddhjgmaaGreatXa13
import Derived.Test.YtmhagllddhjgmaaGreatXa14
import Derived.Test.YtmhagllddhjgmaaGreatXa15
import Derived.Test.YtmhagllddhjgmaaGreatXa16
import Derived.Test.YtmhagllddhjgmaaGreatXa17
import Derived.Test.YtmhagllddhjgmaaGreatXa18
import Derived.Test.YtmhagllddhjgmaaGreatXa19
import Derived.Test.YtmhagllddhjgmaaGreatXa20
import Derived.Test.YtmhagllddhjgmaaGreatXa21
import Derived.Test.YtmhagllddhjgmaaGreatXa22
import Derived.Test.YtmhagllddhjgmaaGreatXa23
import Derived.Test.YtmhagllddhjgmaaGreatXa24
import Derived.Test.YtmhagllddhjgmaaGreatXa25
import Derived.Test.YtmhagllddhjgmaaGreatXa26
import Derived.Test.YtmhagllddhjgmaaGreatXa27
import Derived.Test.YtmhagllddhjgmaaGreatXa28
import Derived.Test.YtmhagllddhjgmaaGreatXa29
import Derived.Test.YtmhagllddhjgmaaGreatXa30
import Derived.Test.YtmhagllddhjgmaaGreatXa31
import Derived.Test.YtmhagllddhjgmaaGreatXa32
import Derived.Test.YtmhagllddhjgmaaGreatXa33
import Derived.Lib.QuietBelow
import Derived.BigQuiet
import Derived.Deep.RegionHeld3
import Derived.Deep.DrawnRows
import Derived.BigRegion
import Derived.Maps.AppendAt
import Derived.Deep.QuietTactic
import Derived.Laws.OwnMore
import Derived.Deep.DeepCutAuto
import Derived.Lib.SmallJoins
import Derived.Deep.Fields
import Derived.Deep.Slices
import Derived.RangeFuncNested
import Derived.RangeFuncBound
import Derived.RangeFuncCalls
import Derived.RangeFuncLeaves
import Derived.RangeFuncBox
import Derived.Shelf.Abstract
import Derived.Shelf.RegionOpen
import Derived.WalkKit
import Derived.OwnWalkIn
import Derived.TacticsInMore
import Derived.LoopNIn
import Derived.LoopIn
import Derived.Deep.RegionLawGrows
import Derived.OrdersHeld
import Derived.Deep.RegionHeldLaw
import Derived.Laws.StructEq
import Derived.ProofKit
import Derived.OpenShut
import Derived.Outline
import Derived.ChangeKeysEq
import Derived.WalkMore
import Derived.Below
import Derived.Deep.RegionWith
import Derived.Deep.LoopGhost
import Derived.OwnWalk
/- Contracts of the program's queueAt, At, wantOf, WantOf, UsedAt: each answers what the lists say. Conditions: the smithy can be read; what each theorem names. -/
namespace Go.Proofs.YtmhagllddhjgmaaGreat
open Go.ChangeShapes Go.WideShapes Go.ChangeAt Go.RowKit Go.Sort
set_option linter.unusedVariables false
set_option maxRecDepth 100000

theorem at_out {m : SmyV} (h : Loose m) {b : Int} (hb : isBenchB m b = false) : atV m.smiths b m.smiths.length = [] := by
  refine List.eq_nil_iff_forall_not_mem.2 fun e he => ?_
  obtain ⟨i, hi, h1, h2, _⟩ := (atV_mem m.smiths b e m.smiths.length).1 he
  obtain ⟨a0, a1, _⟩ := h.at hi h2
  rw [show isBenchB m b = true from inB_t (by omega) (by omega)] at hb
  cases hb
theorem where_at {m : SmyV} {b : Int} {k : Nat} (hk : k < (whereTo (atB b) m.smiths m.smiths.length).length) : ∃ i : Nat, i < m.smiths.length ∧ recAt (whereTo (atB b) m.smiths m.smiths.length) k = (i : Int) := by
  obtain ⟨i, hi, e, _⟩ := (whereTo_mem (atB b) m.smiths _ m.smiths.length).1 (recAt_mem hk)
  exact ⟨i, hi, e⟩
set_option maxHeartbeats 8000000 in
theorem queueAt_any {w : World} {v0 v1 v2 v3 v4 : Value} {m : SmyV} (b : Int) (h : Smy w v0 v1 v2 v3 v4 m) (hL : Loose m) : Calls Tryz.prog 39 #[.agg #[v0, v1, v2, v3, v4, .int .i64 m.now], .int .i64 b] w fun e w' => ∃ v', e = .returned v' ∧ EntsAt w.heap.size w' v' (atV m.smiths b m.smiths.length) ∧ Below w.heap.size w w' := by
  have Hv := hide ((h.alloc (.cells #[v0, v1, v2, v3, v4, .int .i64 m.now] 32)).alloc (.cells #[] 45))
  have HV0 := hide h
  obtain ⟨a0, p0, rfl, _, _⟩ := IsRooms.shape h.rooms
  obtain ⟨a1, p1, rfl, _, _⟩ := IsRec.shape h.guilds
  obtain ⟨a2, p2, rfl, _, _⟩ := IsRec.shape h.smiths
  obtain ⟨a3, p3, rfl, _, _⟩ := IsRec.shape h.desks
  obtain ⟨a4, p4, rfl, _, _⟩ := IsRec.shape h.paces
  clear h
  have hl : m.smiths.length ≤ 1000 := by have := (few_of hL).smiths; omega
  have HL := hide hL
  clear hL
  have kb : Hid (Blk ((w.alloc (.cells #[.slice a0 m.rooms.length p0, .slice a1 m.guilds.length p1, .slice a2 m.smiths.length p2, .slice a3 m.desks.length p3, .slice a4 m.paces.length p4, .int .i64 m.now] 32)).alloc (.cells #[] 45)) w.heap.size 32 #[.slice a0 m.rooms.length p0, .slice a1 m.guilds.length p1, .slice a2 m.smiths.length p2, .slice a3 m.desks.length p3, .slice a4 m.paces.length p4, .int .i64 m.now]) := hide ((Blk.new w _ _).alloc _)
  have BB : Hid (Below w.heap.size w ((w.alloc (.cells #[.slice a0 m.rooms.length p0, .slice a1 m.guilds.length p1, .slice a2 m.smiths.length p2, .slice a3 m.desks.length p3, .slice a4 m.paces.length p4, .int .i64 m.now] 32)).alloc (.cells #[] 45))) := hide (((Below.refl _ _).alloc (Nat.le_refl _) _).alloc (by simp) _)
  have HE : Hid (EntsAt w.heap.size ((w.alloc (.cells #[.slice a0 m.rooms.length p0, .slice a1 m.guilds.length p1, .slice a2 m.smiths.length p2, .slice a3 m.desks.length p3, .slice a4 m.paces.length p4, .int .i64 m.now] 32)).alloc (.cells #[] 45)) (.slice (some ⟨w.heap.size + 1, 0, none⟩) 0 0) []) := hide (ents_empty (by simp) (by simp))
  go_enter Tryz.func39, Tryz.ntmps39
  go_upto_region 2 with fail
  generalize (w.alloc (.cells #[.slice a0 m.rooms.length p0, .slice a1 m.guilds.length p1, .slice a2 m.smiths.length p2, .slice a3 m.desks.length p3, .slice a4 m.paces.length p4, .int .i64 m.now] 32)).alloc (.cells #[] 45) = W at *
  have c0 := (unhide kb).cell (i := 0) (v := .slice a0 m.rooms.length p0) rfl
  have c1 := (unhide kb).cell (i := 1) (v := .slice a1 m.guilds.length p1) rfl
  have c2 := (unhide kb).cell (i := 2) (v := .slice a2 m.smiths.length p2) rfl
  have c3 := (unhide kb).cell (i := 3) (v := .slice a3 m.desks.length p3) rfl
  have c4 := (unhide kb).cell (i := 4) (v := .slice a4 m.paces.length p4) rfl
  have c5 := (unhide kb).cell (i := 5) (v := .int .i64 m.now) rfl
  go_wp2_with fail
  refine (whoIsAt_any b (unhide Hv) hl).mono ?_
  rintro e w1 ⟨vn, rfl, hn, hb⟩
  obtain ⟨na, nc, rfl⟩ := RecAt.shape hn
  have HN0 := hide (RecAt.mono hn (unhide BB).size)
  have Hv1 := hide ((unhide Hv).below hb)
  have kb1 := hide ((unhide kb).below hb (unhide kb).lt)
  have BB1 := hide ((unhide BB).trans (hb.mono (unhide BB).size))
  have HE1 := hide ((unhide HE).later hb)
  clear hb hn c0 c1 c2 c3 c4 c5 Hv kb BB HE
  have Hq := hide (queueOf_at m.smiths b m.smiths.length)
  have Hwh := hide (fun k hk => where_at (m := m) (b := b) (k := k) hk)
  have Hpq := hide (fun k => part_queue (unhide HL) b k)
  have hwl := whereTo_len (atB b) m.smiths m.smiths.length
  generalize whereTo (atB b) m.smiths m.smiths.length = ws at *
  go_wp2_with fail
  go_loopw [5, 13] (fun l i wr => ∃ k : Nat, k ≤ ws.length ∧ i = .int .i64 k ∧ EntsAt w.heap.size wr l (queueOf m.smiths (ws.take k)) ∧ NumsAt w.heap.size wr (.slice na ws.length nc) ws ∧ Blk wr w.heap.size 32 #[.slice a0 m.rooms.length p0, .slice a1 m.guilds.length p1, .slice a2 m.smiths.length p2, .slice a3 m.desks.length p3, .slice a4 m.paces.length p4, .int .i64 m.now] ∧ Smy wr (.slice a0 m.rooms.length p0) (.slice a1 m.guilds.length p1) (.slice a2 m.smiths.length p2) (.slice a3 m.desks.length p3) (.slice a4 m.paces.length p4) m ∧ Below w.heap.size w wr) (fun _ i _ => ws.length - (intOf i).toNat)
  case atStart => exact ⟨0, Nat.zero_le _, rfl, unhide HE1, unhide HN0, unhide kb1, unhide Hv1, unhide BB1⟩
  case round =>
    obtain ⟨k, hk, rfl, he, hn, hkb, hv, hb0⟩ := hrel
    obtain ⟨la, lc, rfl⟩ := EntsAt.shape he
    have HE := hide he
    have HN := hide hn
    have kb := hide hkb
    have Hv := hide hv
    have BB := hide hb0
    clear he hn hkb hv hb0 HE1 HN0 kb1 Hv1 BB1
    by_cases hlt : k < ws.length
    · have hlt1 : (k : Int) < (ws.length : Int) := by omega
      obtain ⟨g, hga, _, _, hcl, _⟩ := RecAt.view encNum_len (by omega) (unhide HN) rfl (by omega)
      cases hga
      have z0 := hcl k hlt 0 _ rfl
      simp only [Nat.mul_one, Nat.add_zero] at z0
      obtain ⟨i, hi, hiw⟩ := unhide Hwh k hlt
      rw [hiw] at z0
      have hi1 : (i : Int) < (m.smiths.length : Int) := by omega
      obtain ⟨_, _, hse, _, _, r2⟩ := (unhide Hv).smiths
      cases hse
      rcases r2 with e0 | ⟨sb, off, rfl, hbw, hcs⟩
      · rw [e0] at hi; simp at hi
      obtain ⟨_, _, _, _, _, _, _, d7, _⟩ := smith_cells hcs hi
      have HT : Hid (queueOf m.smiths (ws.take (k + 1)) = putV (queueOf m.smiths (ws.take k)) (hadS (recAt m.smiths i), (i : Int))) := hide (by rw [take_snoc_at hlt, queueOf_snoc, hiw]; simp)
      have hq1 := unhide Hpq k
      have hq2 := unhide Hpq (k + 1)
      rw [unhide HT] at hq2
      have HQ := hide (queuedV_yes hq1 hq2)
      clear hcl hcs hq1 hq2
      have e7 : (recAt m.smiths i).2.2.2.2.2.2.2.1 = hadS (recAt m.smiths i) := rfl
      rw [e7] at d7
      clear e7
      generalize hadS (recAt m.smiths i) = hd at *
      have c2 := (unhide kb).cell (i := 2) (v := .slice (some ⟨sb, off, none⟩) m.smiths.length p2) rfl
      go_wp2_with fail
      refine (implQueued_any hd (i : Int) (unhide HE).paces).mono ?_
      rw [unhide HQ]
      rintro e w2 ⟨⟨v', rfl, he⟩, hb⟩
      obtain ⟨ua, uc, rfl⟩ := EntsAt.shape he
      have HE2 := hide (he.mono (unhide BB).size)
      replace HN := hide (RecAt.later (unhide HN) hb)
      replace kb := hide ((unhide kb).below hb (unhide kb).lt)
      replace Hv := hide ((unhide Hv).below hb)
      replace BB := hide ((unhide BB).trans (hb.mono (unhide BB).size))
      clear hb he c2 d7 z0
      go_wp2_with fail
      go_roundw
      case rel => exact ⟨k + 1, by omega, by go_num, by rw [unhide HT]; exact unhide HE2, unhide HN, unhide kb, unhide Hv, unhide BB⟩
      case measure => simp [intOf]; omega
    · obtain rfl : k = ws.length := by omega
      have HE3 : Hid (EntsAt w.heap.size wr (.slice la (queueOf m.smiths (ws.take ws.length)).length lc) (atV m.smiths b m.smiths.length)) := hide (by
        have h9 := unhide HE
        have e9 : queueOf m.smiths (ws.take ws.length) = atV m.smiths b m.smiths.length := by rw [List.take_length, unhide Hq]
        rw [← e9]
        exact h9)
      go_wp2_with fail
      go_ret
      exact ⟨_, rfl, unhide HE3, unhide BB⟩
set_option maxHeartbeats 2000000 in
theorem implAt_any (w : World) (v0 v1 v2 v3 v4 : Value) (m : SmyV) (b : Int) (h : Smy w v0 v1 v2 v3 v4 m) : Calls Tryz.prog 10 #[.agg #[v0, v1, v2, v3, v4, .int .i64 m.now], .int .i64 b] w fun e w' => ∃ v', e = .returned v' ∧ EntsAt w.heap.size w' v' (smyAtV m b) ∧ Below w.heap.size w w' := by
  obtain ⟨lq, hlq⟩ : ∃ l, smyAtV m b = l := ⟨_, rfl⟩
  rw [hlq]
  have Hlq := hide hlq
  clear hlq
  have Hv := hide (h.alloc (.cells #[v0, v1, v2, v3, v4, .int .i64 m.now] 32))
  obtain ⟨a0, p0, rfl, _, _⟩ := IsRooms.shape h.rooms
  obtain ⟨a1, p1, rfl, _, _⟩ := IsRec.shape h.guilds
  obtain ⟨a2, p2, rfl, _, _⟩ := IsRec.shape h.smiths
  obtain ⟨a3, p3, rfl, _, _⟩ := IsRec.shape h.desks
  obtain ⟨a4, p4, rfl, _, _⟩ := IsRec.shape h.paces
  clear h
  have kb : Hid (Blk (w.alloc (.cells #[.slice a0 m.rooms.length p0, .slice a1 m.guilds.length p1, .slice a2 m.smiths.length p2, .slice a3 m.desks.length p3, .slice a4 m.paces.length p4, .int .i64 m.now] 32)) w.heap.size 32 #[.slice a0 m.rooms.length p0, .slice a1 m.guilds.length p1, .slice a2 m.smiths.length p2, .slice a3 m.desks.length p3, .slice a4 m.paces.length p4, .int .i64 m.now]) := hide (Blk.new w _ _)
  have BB : Hid (Below w.heap.size w (w.alloc (.cells #[.slice a0 m.rooms.length p0, .slice a1 m.guilds.length p1, .slice a2 m.smiths.length p2, .slice a3 m.desks.length p3, .slice a4 m.paces.length p4, .int .i64 m.now] 32))) := hide ((Below.refl _ _).alloc (Nat.le_refl _) _)
  obtain ⟨ok, hok⟩ : ∃ q, smyB m = q := ⟨_, rfl⟩
  have Hok := hide hok
  clear hok
  go_enter Tryz.func10, Tryz.ntmps10
  go_wp2_with fail
  generalize w.alloc (.cells #[.slice a0 m.rooms.length p0, .slice a1 m.guilds.length p1, .slice a2 m.smiths.length p2, .slice a3 m.desks.length p3, .slice a4 m.paces.length p4, .int .i64 m.now] 32) = W at *
  refine (implSmithyOk_q _ _ _ _ _ _ _ _ (unhide Hok) (unhide Hv)).mono ?_
  rintro e w1 ⟨rfl, hb⟩
  replace Hv := hide ((unhide Hv).below hb)
  replace kb := hide ((unhide kb).below hb (unhide kb).lt)
  replace BB := hide ((unhide BB).trans (hb.mono (unhide BB).size))
  clear hb
  cases ok
  · obtain rfl : lq = [] := by rw [← unhide Hlq]; unfold smyAtV; rw [unhide Hok]; rfl
    go_wp2_with fail
    go_ret
    exact ⟨_, rfl, ents_empty rfl (unhide BB).size, (unhide BB).alloc (unhide BB).size _⟩
  obtain rfl : lq = atV m.smiths b m.smiths.length := by
    rw [← unhide Hlq]
    unfold smyAtV
    rw [unhide Hok, Bool.true_and]
    cases hb : isBenchB m b
    · rw [at_out (smy_loose (unhide Hok)) hb]; rfl
    · rfl
  have c0 := (unhide kb).cell (i := 0) (v := .slice a0 m.rooms.length p0) rfl
  have c1 := (unhide kb).cell (i := 1) (v := .slice a1 m.guilds.length p1) rfl
  have c2 := (unhide kb).cell (i := 2) (v := .slice a2 m.smiths.length p2) rfl
  have c3 := (unhide kb).cell (i := 3) (v := .slice a3 m.desks.length p3) rfl
  have c4 := (unhide kb).cell (i := 4) (v := .slice a4 m.paces.length p4) rfl
  have c5 := (unhide kb).cell (i := 5) (v := .int .i64 m.now) rfl
  go_wp2_with fail
  refine (queueAt_any b (unhide Hv) (smy_loose (unhide Hok))).mono ?_
  rintro e w2 ⟨v', rfl, he, hb⟩
  obtain ⟨ua, uc, rfl⟩ := EntsAt.shape he
  have HE := hide (he.mono (unhide BB).size)
  clear he
  replace Hv := hide ((unhide Hv).below hb)
  replace kb := hide ((unhide kb).below hb (unhide kb).lt)
  replace BB := hide ((unhide BB).trans (hb.mono (unhide BB).size))
  clear hb c0 c1 c2 c3 c4 c5
  go_wp2_with fail
  go_ret
  exact ⟨_, rfl, unhide HE, unhide BB⟩
set_option maxHeartbeats 4000000 in
theorem wantOf_any {w : World} {v0 v1 v2 v3 v4 : Value} {m : SmyV} {k : Nat} (h : Smy w v0 v1 v2 v3 v4 m) (hL : Loose m) (hk : k < m.smiths.length) (hs : (recAt m.smiths k).1 ≠ 0) : Calls Tryz.prog 42 #[.agg #[v0, v1, v2, v3, v4, .int .i64 m.now], .int .i64 (k : Int)] w fun e w' => e = .returned (.int .i64 (wantV m (k : Int))) ∧ Below w.heap.size w w' := by
  have hw : wantV m (k : Int) = wantS m.guilds (recAt m.smiths k) := rfl
  rw [hw]
  clear hw
  have Hg0 := hide h.guilds
  obtain ⟨a0, p0, rfl, _, _⟩ := IsRooms.shape h.rooms
  obtain ⟨a1, p1, rfl, _, _⟩ := IsRec.shape h.guilds
  obtain ⟨a2, p2, rfl, hc2, hm2, r2⟩ := h.smiths
  obtain ⟨a3, p3, rfl, _, _⟩ := IsRec.shape h.desks
  obtain ⟨a4, p4, rfl, _, _⟩ := IsRec.shape h.paces
  clear h
  obtain ⟨hp, hg1, _⟩ := hL.limits hk hs
  have hgs : guildsB m.guilds = true := by
    have hd := hL.head
    unfold headB at hd
    simp only [Bool.and_eq_true, decide_eq_true_eq] at hd
    exact hd.2.1
  rcases r2 with e0 | ⟨sb, off, rfl, hbw, hcl⟩
  · rw [e0] at hk; simp at hk
  have hk1 : (k : Int) < (m.smiths.length : Int) := by omega
  obtain ⟨d0, d1, d2, d3, d4, d5, d6, d7, d8, d9, d10⟩ := smith_cells hcl hk
  clear hcl hs hL
  generalize recAt m.smiths k = ss at *
  obtain ⟨st, be, rk, my, gu, lo, hi, hd, ca, ut, wk⟩ := ss
  simp only at d0 d1 d2 d3 d4 d5 d6 d7 d8 d9 d10 hg1
  obtain ⟨_, _, _, _, ⟨g0, g5⟩, hpair, _⟩ := presB_of hp
  obtain ⟨nr, hnr⟩ : ∃ nr, narV (bnd m.guilds gu) lo hi = nr := ⟨_, rfl⟩
  have HW : Hid (withinV m.guilds gu lo hi = nr) := hide (by rw [← hnr]; exact withinV_t (by unfold isB; rw [hgs, inB_t g0 (by omega)]; rfl) hpair)
  have HX : Hid (wantS m.guilds (st, be, rk, my, gu, lo, hi, hd, ca, ut, wk) = min (max ut nr.1) nr.2) := hide (by rw [← hnr]; rfl)
  rw [unhide HX]
  clear hp hpair hgs hg1 g0 g5 HX hnr
  obtain ⟨nl, nh⟩ := nr
  dsimp only
  have hne : sb ≠ w.heap.size := Nat.ne_of_lt hbw
  have hbw2 : sb < w.heap.size + 1 := by omega
  have BB : Hid (Below w.heap.size w ((w.alloc (.cells #[.slice a0 m.rooms.length p0, .slice a1 m.guilds.length p1, .slice (some ⟨sb, off, none⟩) m.smiths.length p2, .slice a3 m.desks.length p3, .slice a4 m.paces.length p4, .int .i64 m.now] 32)).alloc (.cells #[.int .i64 st, .int .i64 be, .int .i64 rk, .int .i64 my, .int .i64 gu, .int .i64 lo, .int .i64 hi, .int .i64 hd, .int .i64 ca, .int .i64 ut, .int .i64 wk] 41))) := hide (((Below.refl _ _).alloc (Nat.le_refl _) _).alloc (by simp) _)
  have ks : Hid (Blk ((w.alloc (.cells #[.slice a0 m.rooms.length p0, .slice a1 m.guilds.length p1, .slice (some ⟨sb, off, none⟩) m.smiths.length p2, .slice a3 m.desks.length p3, .slice a4 m.paces.length p4, .int .i64 m.now] 32)).alloc (.cells #[.int .i64 st, .int .i64 be, .int .i64 rk, .int .i64 my, .int .i64 gu, .int .i64 lo, .int .i64 hi, .int .i64 hd, .int .i64 ca, .int .i64 ut, .int .i64 wk] 41)) (w.heap.size + 1) 41 #[.int .i64 st, .int .i64 be, .int .i64 rk, .int .i64 my, .int .i64 gu, .int .i64 lo, .int .i64 hi, .int .i64 hd, .int .i64 ca, .int .i64 ut, .int .i64 wk]) := hide (by
    have k9 := Blk.new (w.alloc (.cells #[.slice a0 m.rooms.length p0, .slice a1 m.guilds.length p1, .slice (some ⟨sb, off, none⟩) m.smiths.length p2, .slice a3 m.desks.length p3, .slice a4 m.paces.length p4, .int .i64 m.now] 32)) 41 #[.int .i64 st, .int .i64 be, .int .i64 rk, .int .i64 my, .int .i64 gu, .int .i64 lo, .int .i64 hi, .int .i64 hd, .int .i64 ca, .int .i64 ut, .int .i64 wk]
    rw [World.size_alloc] at k9
    exact k9)
  have kb : Hid (Blk ((w.alloc (.cells #[.slice a0 m.rooms.length p0, .slice a1 m.guilds.length p1, .slice (some ⟨sb, off, none⟩) m.smiths.length p2, .slice a3 m.desks.length p3, .slice a4 m.paces.length p4, .int .i64 m.now] 32)).alloc (.cells #[.int .i64 st, .int .i64 be, .int .i64 rk, .int .i64 my, .int .i64 gu, .int .i64 lo, .int .i64 hi, .int .i64 hd, .int .i64 ca, .int .i64 ut, .int .i64 wk] 41)) w.heap.size 32 #[.slice a0 m.rooms.length p0, .slice a1 m.guilds.length p1, .slice (some ⟨sb, off, none⟩) m.smiths.length p2, .slice a3 m.desks.length p3, .slice a4 m.paces.length p4, .int .i64 m.now]) := hide ((Blk.new w _ _).alloc _)
  have Hg2 := hide ((unhide Hg0).below (unhide BB))
  go_enter Tryz.func42, Tryz.ntmps42
  go_upto_region 2 with fail
  generalize (w.alloc (.cells #[.slice a0 m.rooms.length p0, .slice a1 m.guilds.length p1, .slice (some ⟨sb, off, none⟩) m.smiths.length p2, .slice a3 m.desks.length p3, .slice a4 m.paces.length p4, .int .i64 m.now] 32)).alloc (.cells #[.int .i64 st, .int .i64 be, .int .i64 rk, .int .i64 my, .int .i64 gu, .int .i64 lo, .int .i64 hi, .int .i64 hd, .int .i64 ca, .int .i64 ut, .int .i64 wk] 41) = W at *
  clear d0 d1 d2 d3 d4 d5 d6 d7 d8 d9 d10
  have c1 := (unhide kb).cell (i := 1) (v := .slice a1 m.guilds.length p1) rfl
  have s4 := (unhide ks).cell (i := 4) (v := .int .i64 gu) rfl
  have s5 := (unhide ks).cell (i := 5) (v := .int .i64 lo) rfl
  have s6 := (unhide ks).cell (i := 6) (v := .int .i64 hi) rfl
  go_wp2_with fail
  refine (implWithin_any gu lo hi (unhide Hg2)).mono ?_
  rw [unhide HW]
  rintro e w1 ⟨rfl, hb⟩
  replace ks := hide ((unhide ks).below hb (unhide ks).lt)
  replace BB := hide ((unhide BB).trans (hb.mono (unhide BB).size))
  clear hb c1 s4 s5 s6 HW
  have s9 := (unhide ks).cell (i := 9) (v := .int .i64 ut) rfl
  go_wp2_with (go_at_call 103; refine (implClamped_any _ _ _ _).mono ?_; rintro e w' ⟨rfl, h9⟩; subst w')
  go_ret
  exact ⟨rfl, unhide BB⟩
theorem whoB_has {m : SmyV} (who : Int) : whoB m who = (hasB m.smiths.length who && !((recAt m.smiths who.toNat).1 == 0)) := by unfold whoB; rw [has_in]
set_option maxHeartbeats 4000000 in
theorem implWantOf_any {w : World} {v0 v1 v2 v3 v4 : Value} {m : SmyV} {who q : Int} (hq : wantOfV m who = q) (h : Smy w v0 v1 v2 v3 v4 m) : Calls Tryz.prog 13 #[.agg #[v0, v1, v2, v3, v4, .int .i64 m.now], .int .i64 who] w fun e w' => e = .returned (.int .i64 q) ∧ Below w.heap.size w w' := by
  have Hq := hide hq
  clear hq
  have Hv := hide (h.alloc (.cells #[v0, v1, v2, v3, v4, .int .i64 m.now] 32))
  obtain ⟨a0, p0, rfl, _, _⟩ := IsRooms.shape h.rooms
  obtain ⟨a1, p1, rfl, _, _⟩ := IsRec.shape h.guilds
  obtain ⟨a2, p2, rfl, _, _⟩ := IsRec.shape h.smiths
  obtain ⟨a3, p3, rfl, _, _⟩ := IsRec.shape h.desks
  obtain ⟨a4, p4, rfl, _, _⟩ := IsRec.shape h.paces
  clear h
  have kb : Hid (Blk (w.alloc (.cells #[.slice a0 m.rooms.length p0, .slice a1 m.guilds.length p1, .slice a2 m.smiths.length p2, .slice a3 m.desks.length p3, .slice a4 m.paces.length p4, .int .i64 m.now] 32)) w.heap.size 32 #[.slice a0 m.rooms.length p0, .slice a1 m.guilds.length p1, .slice a2 m.smiths.length p2, .slice a3 m.desks.length p3, .slice a4 m.paces.length p4, .int .i64 m.now]) := hide (Blk.new w _ _)
  have BB : Hid (Below w.heap.size w (w.alloc (.cells #[.slice a0 m.rooms.length p0, .slice a1 m.guilds.length p1, .slice a2 m.smiths.length p2, .slice a3 m.desks.length p3, .slice a4 m.paces.length p4, .int .i64 m.now] 32))) := hide ((Below.refl _ _).alloc (Nat.le_refl _) _)
  obtain ⟨ok, hok⟩ : ∃ q, smyB m = q := ⟨_, rfl⟩
  have Hok := hide hok
  clear hok
  go_enter Tryz.func13, Tryz.ntmps13
  go_wp2_with fail
  generalize w.alloc (.cells #[.slice a0 m.rooms.length p0, .slice a1 m.guilds.length p1, .slice a2 m.smiths.length p2, .slice a3 m.desks.length p3, .slice a4 m.paces.length p4, .int .i64 m.now] 32) = W at *
  refine (implSmithyOk_q _ _ _ _ _ _ _ _ (unhide Hok) (unhide Hv)).mono ?_
  rintro e w1 ⟨rfl, hb⟩
  replace Hv := hide ((unhide Hv).below hb)
  replace kb := hide ((unhide kb).below hb (unhide kb).lt)
  replace BB := hide ((unhide BB).trans (hb.mono (unhide BB).size))
  clear hb
  cases ok
  · obtain rfl : q = -1 := by rw [← unhide Hq]; unfold wantOfV; rw [unhide Hok]; rfl
    go_wp2_with fail
    go_ret
    exact ⟨rfl, unhide BB⟩
  have c0 := (unhide kb).cell (i := 0) (v := .slice a0 m.rooms.length p0) rfl
  have c1 := (unhide kb).cell (i := 1) (v := .slice a1 m.guilds.length p1) rfl
  have c2 := (unhide kb).cell (i := 2) (v := .slice a2 m.smiths.length p2) rfl
  have c3 := (unhide kb).cell (i := 3) (v := .slice a3 m.desks.length p3) rfl
  have c4 := (unhide kb).cell (i := 4) (v := .slice a4 m.paces.length p4) rfl
  have c5 := (unhide kb).cell (i := 5) (v := .int .i64 m.now) rfl
  go_wp2_with fail
  refine (smithsOf_any _ _ _ _ _ _ _ _ _ _ _ _ _ _ _ _ _).mono ?_
  rintro e w2 ⟨rfl, hb⟩
  replace Hv := hide ((unhide Hv).below hb)
  replace kb := hide ((unhide kb).below hb (unhide kb).lt)
  replace BB := hide ((unhide BB).trans (hb.mono (unhide BB).size))
  clear hb c0 c1 c2 c3 c4 c5
  obtain ⟨qh, hqh⟩ : ∃ q, hasB m.smiths.length who = q := ⟨_, rfl⟩
  have Hh := hide hqh
  clear hqh
  go_wp2_with fail
  refine (hasSmith_any _ _ _ who _).mono ?_
  rw [unhide Hh]
  rintro e w3 ⟨rfl, h9⟩
  subst w3
  cases qh
  · obtain rfl : q = -1 := by rw [← unhide Hq]; unfold wantOfV; rw [whoB_has, unhide Hh]; simp
    go_wp2_with fail
    go_ret
    exact ⟨rfl, unhide BB⟩
  have hwb : 0 ≤ who ∧ who < (m.smiths.length : Int) := by have := unhide Hh; unfold hasB at this; simpa using this
  obtain ⟨k, rfl⟩ : ∃ k : Nat, who = k := ⟨who.toNat, by omega⟩
  have hk : k < m.smiths.length := by omega
  have hk1 : (k : Int) < (m.smiths.length : Int) := by omega
  obtain ⟨_, _, hse, _, _, r2⟩ := (unhide Hv).smiths
  cases hse
  rcases r2 with e0 | ⟨sb, off, rfl, hbw, hcl⟩
  · rw [e0] at hk; simp at hk
  obtain ⟨d0, d1, d2, d3, d4, d5, d6, d7, d8, d9, d10⟩ := smith_cells hcl hk
  have c2 := (unhide kb).cell (i := 2) (v := .slice (some ⟨sb, off, none⟩) m.smiths.length p2) rfl
  have HS : Hid (((recAt m.smiths k).1 ≠ 0 → q = wantV m (k : Int)) ∧ ((recAt m.smiths k).1 = 0 → q = -1)) := hide ⟨fun hne => by
      rw [← unhide Hq]; unfold wantOfV; rw [unhide Hok, whoB_has, unhide Hh, Int.toNat_natCast]; simp [hne], fun he => by
      rw [← unhide Hq]; unfold wantOfV; rw [whoB_has, Int.toNat_natCast, he]; simp⟩
  have HW := hide (fun (hne : (recAt m.smiths k).1 ≠ 0) (X : World) (hX : Below w2.heap.size w2 X) => wantOf_any ((unhide Hv).below hX) (smy_loose (unhide Hok)) hk hne)
  clear hcl
  generalize recAt m.smiths k = ss at *
  obtain ⟨st, be, rk, my, gu, lo, hi, hd, ca, ut, wk⟩ := ss
  simp only at d0 d1 d2 d3 d4 d5 d6 d7 d8 d9 d10
  go_wp2_with fail
  refine (isGone_any st be rk my gu lo hi hd ca ut wk _).mono ?_
  rintro e w4 ⟨rfl, hb⟩
  have HB4 := hide hb
  replace kb := hide ((unhide kb).below hb (unhide kb).lt)
  replace BB := hide ((unhide BB).trans (hb.mono (unhide BB).size))
  clear hb c2 d0 d1 d2 d3 d4 d5 d6 d7 d8 d9 d10
  by_cases hst : st = 0
  · subst hst
    obtain rfl : q = -1 := (unhide HS).2 rfl
    go_wp2_with fail
    go_ret
    exact ⟨rfl, unhide BB⟩
  have n0 : (st == 0) = false := by simpa using hst
  rw [n0]
  obtain rfl : q = wantV m (k : Int) := (unhide HS).1 hst
  have c0 := (unhide kb).cell (i := 0) (v := .slice a0 m.rooms.length p0) rfl
  have c1 := (unhide kb).cell (i := 1) (v := .slice a1 m.guilds.length p1) rfl
  have c2 := (unhide kb).cell (i := 2) (v := .slice (some ⟨sb, off, none⟩) m.smiths.length p2) rfl
  have c3 := (unhide kb).cell (i := 3) (v := .slice a3 m.desks.length p3) rfl
  have c4 := (unhide kb).cell (i := 4) (v := .slice a4 m.paces.length p4) rfl
  have c5 := (unhide kb).cell (i := 5) (v := .int .i64 m.now) rfl
  go_wp2_with fail
  refine (unhide HW hst _ (unhide HB4)).mono ?_
  rintro e w5 ⟨rfl, hb⟩
  replace BB := hide ((unhide BB).trans (hb.mono (unhide BB).size))
  clear hb c0 c1 c2 c3 c4 c5
  go_wp2_with fail
  go_ret
  exact ⟨rfl, unhide BB⟩
end Go.Proofs.YtmhagllddhjgmaaGreat

